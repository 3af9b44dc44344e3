/- NaturalDifferences walked. -/
import Derived.Test.YtabebggkfjddbaaDoorNaSpec
set_option linter.unusedSimpArgs false
set_option linter.unusedVariables false
namespace Go.Proofs.YtabebggkfjddbaaDoor
open Go.RowKit
set_option maxRecDepth 100000

set_option maxHeartbeats 1000000 in
theorem differencesW (a b : ByteArray) (W : World) (hp : Pow W.heap.size W) (L_a : a.size ≤ maxLen) (L_b : b.size ≤ maxLen) :
    Calls Tryd.prog 8 #[.string a, .string b] W fun e w' => e = .returned (.bool true) ∧ Below W.heap.size W w' := by
  have HPW := Lib.hid (fun (v : World) (hb : Below W.heap.size W v) => hp.bt hb)
  clear hp
  by_cases hB_a : isB a = true
  rotate_left
  · replace hB_a : isB a = false := by simpa using hB_a
    have C0 : Hid (∀ v, Below W.heap.size W v → Calls Tryd.prog 13 #[] v fun e w' => e = .returned (.bool true) ∧ Below v.heap.size v w') := Lib.hid fun v hb => head_any v (HPW.out v hb)
    have C1 : Hid (∀ v, Below W.heap.size W v → Calls Tryd.prog 18 #[.string a] v fun e w' => e = .returned (.bool false) ∧ Below v.heap.size v w') := Lib.hid fun v hb => by have := is_any a v L_a; rwa [hB_a] at this
    go_enter Tryd.func8, Tryd.ntmps8
    go_wp2_with fail
    refine (C0.out W (Below.refl W.heap.size W)).mono ?_
    rintro e w1 ⟨rfl, hb1⟩
    have hc1 := Nb (Below.refl W.heap.size W) hb1
    go_wp2_with fail
    refine (C1.out w1 hc1).mono ?_
    rintro e w2 ⟨rfl, hb2⟩
    have hc2 := Nb hc1 hb2
    go_wp2_with fail
    go_ret
    exact ⟨rfl, hc2⟩
  by_cases hB_b : isB b = true
  rotate_left
  · replace hB_b : isB b = false := by simpa using hB_b
    have C0 : Hid (∀ v, Below W.heap.size W v → Calls Tryd.prog 13 #[] v fun e w' => e = .returned (.bool true) ∧ Below v.heap.size v w') := Lib.hid fun v hb => head_any v (HPW.out v hb)
    have C1 : Hid (∀ v, Below W.heap.size W v → Calls Tryd.prog 18 #[.string a] v fun e w' => e = .returned (.bool true) ∧ Below v.heap.size v w') := Lib.hid fun v hb => by have := is_any a v L_a; rwa [hB_a] at this
    have C2 : Hid (∀ v, Below W.heap.size W v → Calls Tryd.prog 18 #[.string b] v fun e w' => e = .returned (.bool false) ∧ Below v.heap.size v w') := Lib.hid fun v hb => by have := is_any b v L_b; rwa [hB_b] at this
    go_enter Tryd.func8, Tryd.ntmps8
    go_wp2_with fail
    refine (C0.out W (Below.refl W.heap.size W)).mono ?_
    rintro e w1 ⟨rfl, hb1⟩
    have hc1 := Nb (Below.refl W.heap.size W) hb1
    go_wp2_with fail
    refine (C1.out w1 hc1).mono ?_
    rintro e w2 ⟨rfl, hb2⟩
    have hc2 := Nb hc1 hb2
    go_wp2_with fail
    refine (C2.out w2 hc2).mono ?_
    rintro e w3 ⟨rfl, hb3⟩
    have hc3 := Nb hc2 hb3
    go_wp2_with fail
    go_ret
    exact ⟨rfl, hc3⟩
  have C0 : Hid (∀ v, Below W.heap.size W v → Calls Tryd.prog 13 #[] v fun e w' => e = .returned (.bool true) ∧ Below v.heap.size v w') := Lib.hid fun v hb => head_any v (HPW.out v hb)
  have C1 : Hid (∀ v, Below W.heap.size W v → Calls Tryd.prog 18 #[.string a] v fun e w' => e = .returned (.bool true) ∧ Below v.heap.size v w') := Lib.hid fun v hb => by have := is_any a v L_a; rwa [hB_a] at this
  have C2 : Hid (∀ v, Below W.heap.size W v → Calls Tryd.prog 18 #[.string b] v fun e w' => e = .returned (.bool true) ∧ Below v.heap.size v w') := Lib.hid fun v hb => by have := is_any b v L_b; rwa [hB_b] at this
  obtain ⟨x3, e3, h3⟩ : ∃ x e, opF (fun m n => m + n) a b = (x, e) := ⟨_, _, rfl⟩
  have L_x3 : x3.size ≤ maxLen := by have := op_len (fun m n => m + n) a b; rwa [h3] at this
  have C3 : Hid (∀ v, Below W.heap.size W v → Calls Tryd.prog 22 #[.string a, .string b] v fun e w' => e = .returned (.tuple #[.string x3, .int .i64 e3]) ∧ Below v.heap.size v w') := Lib.hid fun v hb => by have := addF a b v L_a L_b (HPW.out v hb); rwa [h3] at this
  obtain ⟨x4, e4, h4⟩ : ∃ x e, subF x3 b = (x, e) := ⟨_, _, rfl⟩
  have L_x4 : x4.size ≤ maxLen := by have := sub_len x3 b; rwa [h4] at this
  have C4 : Hid (∀ v, Below W.heap.size W v → Calls Tryd.prog 24 #[.string x3, .string b] v fun e w' => e = .returned (.tuple #[.string x4, .int .i64 e4]) ∧ Below v.heap.size v w') := Lib.hid fun v hb => by have := subtractF x3 b v L_x3 L_b (HPW.out v hb); rwa [h4] at this
  obtain ⟨x5, e5, h5⟩ : ∃ x e, subF a b = (x, e) := ⟨_, _, rfl⟩
  have L_x5 : x5.size ≤ maxLen := by have := sub_len a b; rwa [h5] at this
  have C5 : Hid (∀ v, Below W.heap.size W v → Calls Tryd.prog 24 #[.string a, .string b] v fun e w' => e = .returned (.tuple #[.string x5, .int .i64 e5]) ∧ Below v.heap.size v w') := Lib.hid fun v hb => by have := subtractF a b v L_a L_b (HPW.out v hb); rwa [h5] at this
  obtain ⟨x6, e6, h6⟩ : ∃ x e, opF (fun m n => m + n) x5 b = (x, e) := ⟨_, _, rfl⟩
  have L_x6 : x6.size ≤ maxLen := by have := op_len (fun m n => m + n) x5 b; rwa [h6] at this
  have C6 : Hid (∀ v, Below W.heap.size W v → Calls Tryd.prog 22 #[.string x5, .string b] v fun e w' => e = .returned (.tuple #[.string x6, .int .i64 e6]) ∧ Below v.heap.size v w') := Lib.hid fun v hb => by have := addF x5 b v L_x5 L_b (HPW.out v hb); rwa [h6] at this
  obtain ⟨x7, e7, h7⟩ : ∃ x e, subF a a = (x, e) := ⟨_, _, rfl⟩
  have L_x7 : x7.size ≤ maxLen := by have := sub_len a a; rwa [h7] at this
  have C7 : Hid (∀ v, Below W.heap.size W v → Calls Tryd.prog 24 #[.string a, .string a] v fun e w' => e = .returned (.tuple #[.string x7, .int .i64 e7]) ∧ Below v.heap.size v w') := Lib.hid fun v hb => by have := subtractF a a v L_a L_a (HPW.out v hb); rwa [h7] at this
  obtain ⟨la, ta⟩ := isB_lt hB_a
  obtain ⟨lb, tb⟩ := isB_lt hB_b
  have M3 : e3 = 0 → x4 = a ∧ e4 = 0 := by
    intro h0
    rcases op_spec (fun m n => m + n) a b with ⟨h, _, _, hl⟩ | ⟨_, h, _⟩
    · rw [h3] at h
      have hx : x3 = tx (nv a + nv b) := congrArg Prod.fst h
      have hs := sub_spec x3 b (by rw [hx]; exact isB_txl hl) hB_b
      rw [hx, nv_tx, if_neg (by omega), Nat.add_sub_cancel, ta, ← hx, h4] at hs
      exact ⟨congrArg Prod.fst hs, congrArg Prod.snd hs⟩
    · rw [h3] at h
      exact absurd h0 h
  have M5 : e5 = 0 → x6 = a ∧ e6 = 0 := by
    intro h0
    have hs := sub_spec a b hB_a hB_b
    rw [h5] at hs
    by_cases hlt : nv a < nv b
    · rw [if_pos hlt] at hs
      have := congrArg Prod.snd hs
      rw [show (x5, e5).2 = e5 from rfl, h0] at this
      simp at this
    · rw [if_neg hlt] at hs
      have hx : x5 = tx (nv a - nv b) := congrArg Prod.fst hs
      have hk : isB x5 = true := by rw [hx]; exact isB_txl (by omega)
      have he : nv x5 + nv b = nv a := by rw [hx, nv_tx]; omega
      have := opF_ok (fun m n => m + n) x5 b hk hB_b (by show nv x5 + nv b < LIM; omega)
      simp only [he, ta] at this
      rw [h6] at this
      exact ⟨congrArg Prod.fst this, congrArg Prod.snd this⟩
  have M7 : x7 = ⟨#[48]⟩ ∧ e7 = 0 := by
    have hs := sub_spec a a hB_a hB_a
    rw [h7, if_neg (by omega), Nat.sub_self, tx_of [48] 0 (by decide) (by decide)] at hs
    exact ⟨congrArg Prod.fst hs, congrArg Prod.snd hs⟩
  obtain ⟨rfl, rfl⟩ := M7
  clear h3 h4 h5 h6 h7 la ta lb tb
  by_cases k3 : e3 = 0
  · obtain ⟨rfl, rfl⟩ := M3 k3
    subst k3
    by_cases k5 : e5 = 0
    · obtain ⟨rfl, rfl⟩ := M5 k5
      subst k5
      clear M3 M5
      go_enter Tryd.func8, Tryd.ntmps8
      go_wp2_with fail
      refine (C0.out W (Below.refl W.heap.size W)).mono ?_
      rintro e w1 ⟨rfl, hb1⟩
      have hc1 := Nb (Below.refl W.heap.size W) hb1
      go_wp2_with fail
      refine (C1.out w1 hc1).mono ?_
      rintro e w2 ⟨rfl, hb2⟩
      have hc2 := Nb hc1 hb2
      go_wp2_with fail
      refine (C2.out w2 hc2).mono ?_
      rintro e w3 ⟨rfl, hb3⟩
      have hc3 := Nb hc2 hb3
      go_wp2_with fail
      refine (C3.out w3 hc3).mono ?_
      rintro e w4 ⟨rfl, hb4⟩
      have hc4 := Nb hc3 hb4
      go_wp2_with fail
      refine (C4.out w4 hc4).mono ?_
      rintro e w5 ⟨rfl, hb5⟩
      have hc5 := Nb hc4 hb5
      go_wp2_with fail
      refine (C5.out w5 hc5).mono ?_
      rintro e w6 ⟨rfl, hb6⟩
      have hc6 := Nb hc5 hb6
      go_wp2_with fail
      refine (C6.out w6 hc6).mono ?_
      rintro e w7 ⟨rfl, hb7⟩
      have hc7 := Nb hc6 hb7
      go_wp2_with fail
      refine (C7.out w7 hc7).mono ?_
      rintro e w8 ⟨rfl, hb8⟩
      have hc8 := Nb hc7 hb8
      go_wp2_with fail
      go_ret
      exact ⟨rfl, hc8⟩
    · obtain ⟨n5, m5⟩ := nez k5
      clear M3 M5
      go_enter Tryd.func8, Tryd.ntmps8
      go_wp2_with fail
      refine (C0.out W (Below.refl W.heap.size W)).mono ?_
      rintro e w1 ⟨rfl, hb1⟩
      have hc1 := Nb (Below.refl W.heap.size W) hb1
      go_wp2_with fail
      refine (C1.out w1 hc1).mono ?_
      rintro e w2 ⟨rfl, hb2⟩
      have hc2 := Nb hc1 hb2
      go_wp2_with fail
      refine (C2.out w2 hc2).mono ?_
      rintro e w3 ⟨rfl, hb3⟩
      have hc3 := Nb hc2 hb3
      go_wp2_with fail
      refine (C3.out w3 hc3).mono ?_
      rintro e w4 ⟨rfl, hb4⟩
      have hc4 := Nb hc3 hb4
      go_wp2_with fail
      refine (C4.out w4 hc4).mono ?_
      rintro e w5 ⟨rfl, hb5⟩
      have hc5 := Nb hc4 hb5
      go_wp2_with fail
      refine (C5.out w5 hc5).mono ?_
      rintro e w6 ⟨rfl, hb6⟩
      have hc6 := Nb hc5 hb6
      go_wp2_with fail
      refine (C6.out w6 hc6).mono ?_
      rintro e w7 ⟨rfl, hb7⟩
      have hc7 := Nb hc6 hb7
      go_wp2_with fail
      refine (C7.out w7 hc7).mono ?_
      rintro e w8 ⟨rfl, hb8⟩
      have hc8 := Nb hc7 hb8
      go_wp2_with fail
      go_ret
      exact ⟨rfl, hc8⟩
  
  · obtain ⟨n3, m3⟩ := nez k3
    by_cases k5 : e5 = 0
    · obtain ⟨rfl, rfl⟩ := M5 k5
      subst k5
      clear M3 M5
      go_enter Tryd.func8, Tryd.ntmps8
      go_wp2_with fail
      refine (C0.out W (Below.refl W.heap.size W)).mono ?_
      rintro e w1 ⟨rfl, hb1⟩
      have hc1 := Nb (Below.refl W.heap.size W) hb1
      go_wp2_with fail
      refine (C1.out w1 hc1).mono ?_
      rintro e w2 ⟨rfl, hb2⟩
      have hc2 := Nb hc1 hb2
      go_wp2_with fail
      refine (C2.out w2 hc2).mono ?_
      rintro e w3 ⟨rfl, hb3⟩
      have hc3 := Nb hc2 hb3
      go_wp2_with fail
      refine (C3.out w3 hc3).mono ?_
      rintro e w4 ⟨rfl, hb4⟩
      have hc4 := Nb hc3 hb4
      go_wp2_with fail
      refine (C4.out w4 hc4).mono ?_
      rintro e w5 ⟨rfl, hb5⟩
      have hc5 := Nb hc4 hb5
      go_wp2_with fail
      refine (C5.out w5 hc5).mono ?_
      rintro e w6 ⟨rfl, hb6⟩
      have hc6 := Nb hc5 hb6
      go_wp2_with fail
      refine (C6.out w6 hc6).mono ?_
      rintro e w7 ⟨rfl, hb7⟩
      have hc7 := Nb hc6 hb7
      go_wp2_with fail
      refine (C7.out w7 hc7).mono ?_
      rintro e w8 ⟨rfl, hb8⟩
      have hc8 := Nb hc7 hb8
      go_wp2_with fail
      go_ret
      exact ⟨rfl, hc8⟩
    · obtain ⟨n5, m5⟩ := nez k5
      clear M3 M5
      go_enter Tryd.func8, Tryd.ntmps8
      go_wp2_with fail
      refine (C0.out W (Below.refl W.heap.size W)).mono ?_
      rintro e w1 ⟨rfl, hb1⟩
      have hc1 := Nb (Below.refl W.heap.size W) hb1
      go_wp2_with fail
      refine (C1.out w1 hc1).mono ?_
      rintro e w2 ⟨rfl, hb2⟩
      have hc2 := Nb hc1 hb2
      go_wp2_with fail
      refine (C2.out w2 hc2).mono ?_
      rintro e w3 ⟨rfl, hb3⟩
      have hc3 := Nb hc2 hb3
      go_wp2_with fail
      refine (C3.out w3 hc3).mono ?_
      rintro e w4 ⟨rfl, hb4⟩
      have hc4 := Nb hc3 hb4
      go_wp2_with fail
      refine (C4.out w4 hc4).mono ?_
      rintro e w5 ⟨rfl, hb5⟩
      have hc5 := Nb hc4 hb5
      go_wp2_with fail
      refine (C5.out w5 hc5).mono ?_
      rintro e w6 ⟨rfl, hb6⟩
      have hc6 := Nb hc5 hb6
      go_wp2_with fail
      refine (C6.out w6 hc6).mono ?_
      rintro e w7 ⟨rfl, hb7⟩
      have hc7 := Nb hc6 hb7
      go_wp2_with fail
      refine (C7.out w7 hc7).mono ?_
      rintro e w8 ⟨rfl, hb8⟩
      have hc8 := Nb hc7 hb8
      go_wp2_with fail
      go_ret
      exact ⟨rfl, hc8⟩
end Go.Proofs.YtabebggkfjddbaaDoor
