/- NaturalSmall walked. -/
import Derived.Test.YtabebggkfjddbaaDoorNaOrdM
import Derived.Deep.LoopGhost
set_option linter.unusedSimpArgs false
set_option linter.unusedVariables false
namespace Go.Proofs.YtabebggkfjddbaaDoor
open Go.RowKit
set_option maxRecDepth 100000

theorem big18 {n : Nat} (h : n ≤ 9223372036854775807) : n < LIM := Nat.lt_of_le_of_lt h (small (by decide))

theorem drewB {B : Nat} {u v : World} (h : Below B u v) (q : Nat) : Below B u (v.drewN q) := ⟨h.os, h.tape, h.output, h.size, h.block⟩

theorem of_eq (x : Int) (n : Nat) (w : World) (hx : x = (n : Int)) (h : n ≤ 9223372036854775807) (hp : Pow w.heap.size w) :
    Calls Tryd.prog 20 #[.int .i64 x] w fun e w' => e = .returned (.string (tx n)) ∧ Below w.heap.size w w' := by
  rw [hx]
  exact of_any n w h hp

set_option maxHeartbeats 4000000 in
theorem smallW (p q : Int) (W : World) (hp : Pow W.heap.size W) (hp1 : (Lit.int .u32 p).wf = true) (hq1 : (Lit.int .u32 q).wf = true) :
    Calls Tryd.prog 12 #[.int .u32 p, .int .u32 q] W fun e w' => e = .returned (.bool true) ∧ Below W.heap.size W w' := by
  have HPW := Lib.hid (fun (v : World) (hb : Below W.heap.size W v) => hp.bt hb)
  clear hp
  have hp2 : 0 ≤ p ∧ p ≤ 4294967295 := by simpa [Lit.wf, IntKind.min, IntKind.max, IntKind.signed, IntKind.bits] using hp1
  have hq2 : 0 ≤ q ∧ q ≤ 4294967295 := by simpa [Lit.wf, IntKind.min, IntKind.max, IntKind.signed, IntKind.bits] using hq1
  obtain ⟨n, hn⟩ : ∃ n : Nat, p / 2 = (n : Int) := ⟨(p / 2).toNat, by omega⟩
  obtain ⟨m, hm⟩ : ∃ m : Nat, q / 2 = (m : Int) := ⟨(q / 2).toNat, by omega⟩
  have hn3 : n < 2147483648 := by omega
  have hm3 : m < 2147483648 := by omega
  clear hp1 hq1
  have C0 : Hid (∀ v, Below W.heap.size W v → Calls Tryd.prog 13 #[] v fun e w' => e = .returned (.bool true) ∧ Below v.heap.size v w') := Lib.hid fun v hb => head_any v (HPW.out v hb)
  have hnm : n * m ≤ 2147483648 * 2147483648 := Nat.mul_le_mul (by omega) (by omega)
  have ln : n < LIM := big18 (by omega)
  have lm : m < LIM := big18 (by omega)
  have lnm : n * m < LIM := big18 (by omega)
  have lsum : n + m < LIM := big18 (by omega)
  have hmulw : wrap64 ((n : Int) * (m : Int)) = ((n * m : Nat) : Int) := by
    rw [show (n : Int) * (m : Int) = ((n * m : Nat) : Int) by simp]
    generalize n * m = x at *
    unfold wrap64
    omega
  have C1 : Hid (∀ v, Below W.heap.size W v → Calls Tryd.prog 20 #[.int .i64 (n : Int)] v fun e w' => e = .returned (.string (tx n)) ∧ Below v.heap.size v w') := Lib.hid fun v hb => by exact of_any n v (by omega) (HPW.out v hb)
  have C2 : Hid (∀ v, Below W.heap.size W v → Calls Tryd.prog 20 #[.int .i64 (m : Int)] v fun e w' => e = .returned (.string (tx m)) ∧ Below v.heap.size v w') := Lib.hid fun v hb => by exact of_any m v (by omega) (HPW.out v hb)
  have C3 : Hid (∀ v, Below W.heap.size W v → Calls Tryd.prog 22 #[.string (tx n), .string (tx m)] v fun e w' => e = .returned (.tuple #[.string (tx (n + m)), .int .i64 0]) ∧ Below v.heap.size v w') := Lib.hid fun v hb => by have := addF (tx n) (tx m) v (tx_len ln) (tx_len lm) (HPW.out v hb); rw [opF_ok _ _ _ (isB_txl ln) (isB_txl lm) (by rw [nv_tx, nv_tx]; exact lsum)] at this; simpa only [nv_tx] using this
  have C4 : Hid (∀ v, Below W.heap.size W v → Calls Tryd.prog 26 #[.string (tx n), .string (tx m)] v fun e w' => e = .returned (.tuple #[.string (tx (n * m)), .int .i64 0]) ∧ Below v.heap.size v w') := Lib.hid fun v hb => by have := mulF (tx n) (tx m) v (tx_len ln) (tx_len lm) (HPW.out v hb); rw [opF_ok _ _ _ (isB_txl ln) (isB_txl lm) (by rw [nv_tx, nv_tx]; exact lnm)] at this; simpa only [nv_tx] using this
  have C5 : Hid (∀ v, Below W.heap.size W v → Calls Tryd.prog 16 #[.string (tx n), .string (tx m)] v fun e w' => e = .returned (.tuple #[.int .i64 (cmpN n m), .int .i64 0]) ∧ Below v.heap.size v w') := Lib.hid fun v hb => by exact compare_tx n m v ln lm
  have C6 : Hid (∀ v, Below W.heap.size W v → Calls Tryd.prog 20 #[.int .i64 ((n : Int) + (m : Int))] v fun e w' => e = .returned (.string (tx (n + m))) ∧ Below v.heap.size v w') := Lib.hid fun v hb => by exact of_eq _ (n + m) v (by omega) (by omega) (HPW.out v hb)
  have C7 : Hid (∀ v, Below W.heap.size W v → Calls Tryd.prog 20 #[.int .i64 (wrap64 ((n : Int) * (m : Int)))] v fun e w' => e = .returned (.string (tx (n * m))) ∧ Below v.heap.size v w') := Lib.hid fun v hb => by exact of_eq _ (n * m) v hmulw (by omega) (HPW.out v hb)
  have C11 : Hid (∀ v, Below W.heap.size W v → Calls Tryd.prog 30 #[.string (tx n), .string (tx m)] v fun e w' => e = .returned (.tuple #[.string (tx (Nat.gcd n m)), .int .i64 0]) ∧ Below v.heap.size v w') := Lib.hid fun v hb => by have := gcdF (tx n) (tx m) v (tx_len ln) (tx_len lm) (HPW.out v hb); rw [opF_ok _ _ _ (isB_txl ln) (isB_txl lm) (by rw [nv_tx, nv_tx]; exact gcd_lim ln lm)] at this; simpa only [nv_tx] using this
  have hsub := subtractF (tx n) (tx m)
  rw [sub_spec _ _ (isB_txl ln) (isB_txl lm), nv_tx, nv_tx] at hsub
  clear hmulw hnm lsum lnm
  rcases Nat.lt_trichotomy n m with h | h | h
  · have hc : cmpN n m = -1 := by unfold cmpN; rw [if_pos h]
    rw [hc] at C5
    clear hc
    have C8 : Hid (∀ v, Below W.heap.size W v → Calls Tryd.prog 24 #[.string (tx n), .string (tx m)] v fun e w' => e = .returned (.tuple #[.string nil', .int .i64 10]) ∧ Below v.heap.size v w') := Lib.hid fun v hb => by have := hsub v (tx_len ln) (tx_len lm) (HPW.out v hb); rwa [if_pos (by omega)] at this
    have hmi : ¬ (m : Int) = 0 := by omega
    have hmb : ((m : Int) == 0) = false := by simp; omega
    have C10 : Hid (∀ v, Below W.heap.size W v → Calls Tryd.prog 28 #[.string (tx n), .string (tx m)] v fun e w' => e = .returned (.tuple #[.string (tx (n / m)), .string (tx (n % m)), .int .i64 0]) ∧ Below v.heap.size v w') := Lib.hid fun v hb => by exact div_tx n m v ln lm (by omega) (HPW.out v hb)
    have hdle := Nat.div_le_self n m
    have hmle := Nat.mod_le n m
    have C12 : Hid (∀ v, Below W.heap.size W v → Calls Tryd.prog 20 #[.int .i64 (wrap64 ((n : Int) / (m : Int)))] v fun e w' => e = .returned (.string (tx (n / m))) ∧ Below v.heap.size v w') := Lib.hid fun v hb => by exact of_eq _ (n / m) v (div_wrap n m (by omega)) (by omega) (HPW.out v hb)
    have C13 : Hid (∀ v, Below W.heap.size W v → Calls Tryd.prog 20 #[.int .i64 ((n : Int) % (m : Int))] v fun e w' => e = .returned (.string (tx (n % m))) ∧ Below v.heap.size v w') := Lib.hid fun v hb => by exact of_eq _ (n % m) v (by simp) (by omega) (HPW.out v hb)
    clear hsub
    go_enter Tryd.func12, Tryd.ntmps12
    go_wp2_with fail
    refine (C0.out W (Below.refl W.heap.size W)).mono ?_
    rintro e w1 ⟨rfl, hb1⟩
    have hc1 := Nb (Below.refl W.heap.size W) hb1
    go_wp2_with fail
    refine (C1.out w1 hc1).mono ?_
    rintro e w2 ⟨rfl, hb2⟩
    have hc2 := Nb hc1 hb2
    go_wp2_with fail
    refine (C2.out w2 hc2).mono ?_
    rintro e w3 ⟨rfl, hb3⟩
    have hc3 := Nb hc2 hb3
    go_wp2_with fail
    refine (C3.out w3 hc3).mono ?_
    rintro e w4 ⟨rfl, hb4⟩
    have hc4 := Nb hc3 hb4
    go_wp2_with fail
    refine (C4.out w4 hc4).mono ?_
    rintro e w5 ⟨rfl, hb5⟩
    have hc5 := Nb hc4 hb5
    go_wp2_with fail
    refine (C5.out w5 hc5).mono ?_
    rintro e w6 ⟨rfl, hb6⟩
    have hc6 := Nb hc5 hb6
    go_wp2_with fail
    refine (C6.out w6 hc6).mono ?_
    rintro e w7 ⟨rfl, hb7⟩
    have hc7 := Nb hc6 hb7
    go_wp2_with fail
    refine (C7.out w7 hc7).mono ?_
    rintro e w8 ⟨rfl, hb8⟩
    have hc8 := Nb hc7 hb8
    go_wp2_with fail
    refine (C8.out w8 hc8).mono ?_
    rintro e w9 ⟨rfl, hb9⟩
    have hc9 := Nb hc8 hb9
    go_wp2_with fail
    refine (C10.out w9 hc9).mono ?_
    rintro e w10 ⟨rfl, hb10⟩
    have hc10 := Nb hc9 hb10
    go_wp2_with fail
    go_loopg [19, 20] m (fun gf x y wx => ∃ a b : Nat, x = .int .i64 (a : Int) ∧ y = .int .i64 (b : Int) ∧ b ≤ gf ∧ a < 2147483648 ∧ b < 2147483648 ∧ Hid (Nat.gcd a b = Nat.gcd n m) ∧ Below W.heap.size W wx)
    case atStart => exact ⟨n, m, rfl, rfl, Nat.le_refl _, hn3, hm3, Lib.hid rfl, hc10⟩
    case round =>
      obtain ⟨a, b, rfl, rfl, hbg, ha3, hb3, HG, hbx⟩ := hrel
      by_cases hb0 : b = 0
      · have hgx : a = Nat.gcd n m := by rw [← HG.out, hb0, Nat.gcd_zero_right]
        have CX : Hid (∀ v, Below W.heap.size W v → Calls Tryd.prog 20 #[.int .i64 (a : Int)] v fun e w' => e = .returned (.string (tx (Nat.gcd n m))) ∧ Below v.heap.size v w') := Lib.hid fun v hb => by rw [← hgx]; exact of_any a v (by omega) (HPW.out v hb)
        clear hgx HG
        subst hb0
        go_wp2_with fail
        refine (C11.out wr hbx).mono ?_
        rintro e u1 ⟨rfl, hu1⟩
        have hv1 := Nb hbx hu1
        go_wp2_with fail
        refine (C12.out u1 hv1).mono ?_
        rintro e u2 ⟨rfl, hu2⟩
        have hv2 := Nb hv1 hu2
        go_wp2_with fail
        refine (C13.out u2 hv2).mono ?_
        rintro e u3 ⟨rfl, hu3⟩
        have hv3 := Nb hv2 hu3
        go_wp2_with fail
        refine (CX.out u3 hv3).mono ?_
        rintro e u4 ⟨rfl, hu4⟩
        have hv4 := Nb hv3 hu4
        go_wp2_with fail
        go_ret
        exact ⟨rfl, hv4⟩
      · obtain ⟨g', rfl⟩ : ∃ g', gk = g' + 1 := ⟨gk - 1, by omega⟩
        have hmod : a % b < b := Nat.mod_lt _ (by omega)
        have hmi : (a : Int) % (b : Int) = ((a % b : Nat) : Int) := by simp
        have HG2 : Hid (Nat.gcd b (a % b) = Nat.gcd n m) := Lib.hid (by rw [← HG.out, Nat.gcd_comm a b, Nat.gcd_rec b a, Nat.gcd_comm])
        have hbi : ¬ (b : Int) = 0 := by omega
        have hb0' : (0 : Int) < (b : Int) := by omega
        generalize a % b = r at *
        clear HG
        go_wp2_with fail
        go_quiet (fail)
        go_wp2_with fail
        go_roundg g'
        case measure => omega
        case rel => exact ⟨b, r, rfl, congrArg (Value.int IntKind.i64) hmi, by omega, hb3, by omega, HG2, drewB hbx nq⟩
  · have hc : cmpN n m = 0 := by unfold cmpN; rw [if_neg (by omega), if_neg (by omega)]
    rw [hc] at C5
    clear hc
    by_cases h0 : m = 0
    · skip
      have hmz : ((m : Int) == 0) = true := by rw [h0]; rfl
      have C8 : Hid (∀ v, Below W.heap.size W v → Calls Tryd.prog 24 #[.string (tx n), .string (tx m)] v fun e w' => e = .returned (.tuple #[.string (tx (n - m)), .int .i64 0]) ∧ Below v.heap.size v w') := Lib.hid fun v hb => by have := hsub v (tx_len ln) (tx_len lm) (HPW.out v hb); rwa [if_neg (by omega)] at this
      have C9 : Hid (∀ v, Below W.heap.size W v → Calls Tryd.prog 20 #[.int .i64 ((n : Int) - (m : Int))] v fun e w' => e = .returned (.string (tx (n - m))) ∧ Below v.heap.size v w') := Lib.hid fun v hb => by exact of_eq _ (n - m) v (by omega) (by omega) (HPW.out v hb)
      have hge1 : (m : Int) ≤ (n : Int) := by omega
      have hlt1 : ¬ (n : Int) < (m : Int) := by omega
      have hgt1 : ¬ (m : Int) < (n : Int) := by omega
      clear hsub C11 h0 h
      go_enter Tryd.func12, Tryd.ntmps12
      go_wp2_with fail
      refine (C0.out W (Below.refl W.heap.size W)).mono ?_
      rintro e w1 ⟨rfl, hb1⟩
      have hc1 := Nb (Below.refl W.heap.size W) hb1
      go_wp2_with fail
      refine (C1.out w1 hc1).mono ?_
      rintro e w2 ⟨rfl, hb2⟩
      have hc2 := Nb hc1 hb2
      go_wp2_with fail
      refine (C2.out w2 hc2).mono ?_
      rintro e w3 ⟨rfl, hb3⟩
      have hc3 := Nb hc2 hb3
      go_wp2_with fail
      refine (C3.out w3 hc3).mono ?_
      rintro e w4 ⟨rfl, hb4⟩
      have hc4 := Nb hc3 hb4
      go_wp2_with fail
      refine (C4.out w4 hc4).mono ?_
      rintro e w5 ⟨rfl, hb5⟩
      have hc5 := Nb hc4 hb5
      go_wp2_with fail
      refine (C5.out w5 hc5).mono ?_
      rintro e w6 ⟨rfl, hb6⟩
      have hc6 := Nb hc5 hb6
      go_wp2_with fail
      refine (C6.out w6 hc6).mono ?_
      rintro e w7 ⟨rfl, hb7⟩
      have hc7 := Nb hc6 hb7
      go_wp2_with fail
      refine (C7.out w7 hc7).mono ?_
      rintro e w8 ⟨rfl, hb8⟩
      have hc8 := Nb hc7 hb8
      go_wp2_with fail
      refine (C8.out w8 hc8).mono ?_
      rintro e w9 ⟨rfl, hb9⟩
      have hc9 := Nb hc8 hb9
      go_wp2_with fail
      refine (C9.out w9 hc9).mono ?_
      rintro e w10 ⟨rfl, hb10⟩
      have hc10 := Nb hc9 hb10
      go_wp2_with fail
      go_ret
      exact ⟨rfl, hc10⟩
    · skip
      have C8 : Hid (∀ v, Below W.heap.size W v → Calls Tryd.prog 24 #[.string (tx n), .string (tx m)] v fun e w' => e = .returned (.tuple #[.string (tx (n - m)), .int .i64 0]) ∧ Below v.heap.size v w') := Lib.hid fun v hb => by have := hsub v (tx_len ln) (tx_len lm) (HPW.out v hb); rwa [if_neg (by omega)] at this
      have C9 : Hid (∀ v, Below W.heap.size W v → Calls Tryd.prog 20 #[.int .i64 ((n : Int) - (m : Int))] v fun e w' => e = .returned (.string (tx (n - m))) ∧ Below v.heap.size v w') := Lib.hid fun v hb => by exact of_eq _ (n - m) v (by omega) (by omega) (HPW.out v hb)
      have hge1 : (m : Int) ≤ (n : Int) := by omega
      have hlt1 : ¬ (n : Int) < (m : Int) := by omega
      have hgt1 : ¬ (m : Int) < (n : Int) := by omega
      have hmi : ¬ (m : Int) = 0 := by omega
      have hmb : ((m : Int) == 0) = false := by simp; omega
      have C10 : Hid (∀ v, Below W.heap.size W v → Calls Tryd.prog 28 #[.string (tx n), .string (tx m)] v fun e w' => e = .returned (.tuple #[.string (tx (n / m)), .string (tx (n % m)), .int .i64 0]) ∧ Below v.heap.size v w') := Lib.hid fun v hb => by exact div_tx n m v ln lm (by omega) (HPW.out v hb)
      have hdle := Nat.div_le_self n m
      have hmle := Nat.mod_le n m
      have C12 : Hid (∀ v, Below W.heap.size W v → Calls Tryd.prog 20 #[.int .i64 (wrap64 ((n : Int) / (m : Int)))] v fun e w' => e = .returned (.string (tx (n / m))) ∧ Below v.heap.size v w') := Lib.hid fun v hb => by exact of_eq _ (n / m) v (div_wrap n m (by omega)) (by omega) (HPW.out v hb)
      have C13 : Hid (∀ v, Below W.heap.size W v → Calls Tryd.prog 20 #[.int .i64 ((n : Int) % (m : Int))] v fun e w' => e = .returned (.string (tx (n % m))) ∧ Below v.heap.size v w') := Lib.hid fun v hb => by exact of_eq _ (n % m) v (by simp) (by omega) (HPW.out v hb)
      clear hsub h
      go_enter Tryd.func12, Tryd.ntmps12
      go_wp2_with fail
      refine (C0.out W (Below.refl W.heap.size W)).mono ?_
      rintro e w1 ⟨rfl, hb1⟩
      have hc1 := Nb (Below.refl W.heap.size W) hb1
      go_wp2_with fail
      refine (C1.out w1 hc1).mono ?_
      rintro e w2 ⟨rfl, hb2⟩
      have hc2 := Nb hc1 hb2
      go_wp2_with fail
      refine (C2.out w2 hc2).mono ?_
      rintro e w3 ⟨rfl, hb3⟩
      have hc3 := Nb hc2 hb3
      go_wp2_with fail
      refine (C3.out w3 hc3).mono ?_
      rintro e w4 ⟨rfl, hb4⟩
      have hc4 := Nb hc3 hb4
      go_wp2_with fail
      refine (C4.out w4 hc4).mono ?_
      rintro e w5 ⟨rfl, hb5⟩
      have hc5 := Nb hc4 hb5
      go_wp2_with fail
      refine (C5.out w5 hc5).mono ?_
      rintro e w6 ⟨rfl, hb6⟩
      have hc6 := Nb hc5 hb6
      go_wp2_with fail
      refine (C6.out w6 hc6).mono ?_
      rintro e w7 ⟨rfl, hb7⟩
      have hc7 := Nb hc6 hb7
      go_wp2_with fail
      refine (C7.out w7 hc7).mono ?_
      rintro e w8 ⟨rfl, hb8⟩
      have hc8 := Nb hc7 hb8
      go_wp2_with fail
      refine (C8.out w8 hc8).mono ?_
      rintro e w9 ⟨rfl, hb9⟩
      have hc9 := Nb hc8 hb9
      go_wp2_with fail
      refine (C9.out w9 hc9).mono ?_
      rintro e w10 ⟨rfl, hb10⟩
      have hc10 := Nb hc9 hb10
      go_wp2_with fail
      refine (C10.out w10 hc10).mono ?_
      rintro e w11 ⟨rfl, hb11⟩
      have hc11 := Nb hc10 hb11
      go_wp2_with fail
      go_loopg [19, 20] m (fun gf x y wx => ∃ a b : Nat, x = .int .i64 (a : Int) ∧ y = .int .i64 (b : Int) ∧ b ≤ gf ∧ a < 2147483648 ∧ b < 2147483648 ∧ Hid (Nat.gcd a b = Nat.gcd n m) ∧ Below W.heap.size W wx)
      case atStart => exact ⟨n, m, rfl, rfl, Nat.le_refl _, hn3, hm3, Lib.hid rfl, hc11⟩
      case round =>
        obtain ⟨a, b, rfl, rfl, hbg, ha3, hb3, HG, hbx⟩ := hrel
        by_cases hb0 : b = 0
        · have hgx : a = Nat.gcd n m := by rw [← HG.out, hb0, Nat.gcd_zero_right]
          have CX : Hid (∀ v, Below W.heap.size W v → Calls Tryd.prog 20 #[.int .i64 (a : Int)] v fun e w' => e = .returned (.string (tx (Nat.gcd n m))) ∧ Below v.heap.size v w') := Lib.hid fun v hb => by rw [← hgx]; exact of_any a v (by omega) (HPW.out v hb)
          clear hgx HG
          subst hb0
          go_wp2_with fail
          refine (C11.out wr hbx).mono ?_
          rintro e u1 ⟨rfl, hu1⟩
          have hv1 := Nb hbx hu1
          go_wp2_with fail
          refine (C12.out u1 hv1).mono ?_
          rintro e u2 ⟨rfl, hu2⟩
          have hv2 := Nb hv1 hu2
          go_wp2_with fail
          refine (C13.out u2 hv2).mono ?_
          rintro e u3 ⟨rfl, hu3⟩
          have hv3 := Nb hv2 hu3
          go_wp2_with fail
          refine (CX.out u3 hv3).mono ?_
          rintro e u4 ⟨rfl, hu4⟩
          have hv4 := Nb hv3 hu4
          go_wp2_with fail
          go_ret
          exact ⟨rfl, hv4⟩
        · obtain ⟨g', rfl⟩ : ∃ g', gk = g' + 1 := ⟨gk - 1, by omega⟩
          have hmod : a % b < b := Nat.mod_lt _ (by omega)
          have hmi : (a : Int) % (b : Int) = ((a % b : Nat) : Int) := by simp
          have HG2 : Hid (Nat.gcd b (a % b) = Nat.gcd n m) := Lib.hid (by rw [← HG.out, Nat.gcd_comm a b, Nat.gcd_rec b a, Nat.gcd_comm])
          have hbi : ¬ (b : Int) = 0 := by omega
          have hb0' : (0 : Int) < (b : Int) := by omega
          generalize a % b = r at *
          clear HG
          go_wp2_with fail
          go_quiet (fail)
          go_wp2_with fail
          go_roundg g'
          case measure => omega
          case rel => exact ⟨b, r, rfl, congrArg (Value.int IntKind.i64) hmi, by omega, hb3, by omega, HG2, drewB hbx nq⟩
  · have hc : cmpN n m = 1 := by unfold cmpN; rw [if_neg (by omega), if_pos h]
    rw [hc] at C5
    clear hc
    by_cases h0 : m = 0
    · skip
      have hmz : ((m : Int) == 0) = true := by rw [h0]; rfl
      have C8 : Hid (∀ v, Below W.heap.size W v → Calls Tryd.prog 24 #[.string (tx n), .string (tx m)] v fun e w' => e = .returned (.tuple #[.string (tx (n - m)), .int .i64 0]) ∧ Below v.heap.size v w') := Lib.hid fun v hb => by have := hsub v (tx_len ln) (tx_len lm) (HPW.out v hb); rwa [if_neg (by omega)] at this
      have C9 : Hid (∀ v, Below W.heap.size W v → Calls Tryd.prog 20 #[.int .i64 ((n : Int) - (m : Int))] v fun e w' => e = .returned (.string (tx (n - m))) ∧ Below v.heap.size v w') := Lib.hid fun v hb => by exact of_eq _ (n - m) v (by omega) (by omega) (HPW.out v hb)
      have hge1 : (m : Int) ≤ (n : Int) := by omega
      have hlt1 : ¬ (n : Int) < (m : Int) := by omega
      clear hsub C11 h0
      go_enter Tryd.func12, Tryd.ntmps12
      go_wp2_with fail
      refine (C0.out W (Below.refl W.heap.size W)).mono ?_
      rintro e w1 ⟨rfl, hb1⟩
      have hc1 := Nb (Below.refl W.heap.size W) hb1
      go_wp2_with fail
      refine (C1.out w1 hc1).mono ?_
      rintro e w2 ⟨rfl, hb2⟩
      have hc2 := Nb hc1 hb2
      go_wp2_with fail
      refine (C2.out w2 hc2).mono ?_
      rintro e w3 ⟨rfl, hb3⟩
      have hc3 := Nb hc2 hb3
      go_wp2_with fail
      refine (C3.out w3 hc3).mono ?_
      rintro e w4 ⟨rfl, hb4⟩
      have hc4 := Nb hc3 hb4
      go_wp2_with fail
      refine (C4.out w4 hc4).mono ?_
      rintro e w5 ⟨rfl, hb5⟩
      have hc5 := Nb hc4 hb5
      go_wp2_with fail
      refine (C5.out w5 hc5).mono ?_
      rintro e w6 ⟨rfl, hb6⟩
      have hc6 := Nb hc5 hb6
      go_wp2_with fail
      refine (C6.out w6 hc6).mono ?_
      rintro e w7 ⟨rfl, hb7⟩
      have hc7 := Nb hc6 hb7
      go_wp2_with fail
      refine (C7.out w7 hc7).mono ?_
      rintro e w8 ⟨rfl, hb8⟩
      have hc8 := Nb hc7 hb8
      go_wp2_with fail
      refine (C8.out w8 hc8).mono ?_
      rintro e w9 ⟨rfl, hb9⟩
      have hc9 := Nb hc8 hb9
      go_wp2_with fail
      refine (C9.out w9 hc9).mono ?_
      rintro e w10 ⟨rfl, hb10⟩
      have hc10 := Nb hc9 hb10
      go_wp2_with fail
      go_ret
      exact ⟨rfl, hc10⟩
    · skip
      have C8 : Hid (∀ v, Below W.heap.size W v → Calls Tryd.prog 24 #[.string (tx n), .string (tx m)] v fun e w' => e = .returned (.tuple #[.string (tx (n - m)), .int .i64 0]) ∧ Below v.heap.size v w') := Lib.hid fun v hb => by have := hsub v (tx_len ln) (tx_len lm) (HPW.out v hb); rwa [if_neg (by omega)] at this
      have C9 : Hid (∀ v, Below W.heap.size W v → Calls Tryd.prog 20 #[.int .i64 ((n : Int) - (m : Int))] v fun e w' => e = .returned (.string (tx (n - m))) ∧ Below v.heap.size v w') := Lib.hid fun v hb => by exact of_eq _ (n - m) v (by omega) (by omega) (HPW.out v hb)
      have hge1 : (m : Int) ≤ (n : Int) := by omega
      have hlt1 : ¬ (n : Int) < (m : Int) := by omega
      have hmi : ¬ (m : Int) = 0 := by omega
      have hmb : ((m : Int) == 0) = false := by simp; omega
      have C10 : Hid (∀ v, Below W.heap.size W v → Calls Tryd.prog 28 #[.string (tx n), .string (tx m)] v fun e w' => e = .returned (.tuple #[.string (tx (n / m)), .string (tx (n % m)), .int .i64 0]) ∧ Below v.heap.size v w') := Lib.hid fun v hb => by exact div_tx n m v ln lm (by omega) (HPW.out v hb)
      have hdle := Nat.div_le_self n m
      have hmle := Nat.mod_le n m
      have C12 : Hid (∀ v, Below W.heap.size W v → Calls Tryd.prog 20 #[.int .i64 (wrap64 ((n : Int) / (m : Int)))] v fun e w' => e = .returned (.string (tx (n / m))) ∧ Below v.heap.size v w') := Lib.hid fun v hb => by exact of_eq _ (n / m) v (div_wrap n m (by omega)) (by omega) (HPW.out v hb)
      have C13 : Hid (∀ v, Below W.heap.size W v → Calls Tryd.prog 20 #[.int .i64 ((n : Int) % (m : Int))] v fun e w' => e = .returned (.string (tx (n % m))) ∧ Below v.heap.size v w') := Lib.hid fun v hb => by exact of_eq _ (n % m) v (by simp) (by omega) (HPW.out v hb)
      clear hsub
      go_enter Tryd.func12, Tryd.ntmps12
      go_wp2_with fail
      refine (C0.out W (Below.refl W.heap.size W)).mono ?_
      rintro e w1 ⟨rfl, hb1⟩
      have hc1 := Nb (Below.refl W.heap.size W) hb1
      go_wp2_with fail
      refine (C1.out w1 hc1).mono ?_
      rintro e w2 ⟨rfl, hb2⟩
      have hc2 := Nb hc1 hb2
      go_wp2_with fail
      refine (C2.out w2 hc2).mono ?_
      rintro e w3 ⟨rfl, hb3⟩
      have hc3 := Nb hc2 hb3
      go_wp2_with fail
      refine (C3.out w3 hc3).mono ?_
      rintro e w4 ⟨rfl, hb4⟩
      have hc4 := Nb hc3 hb4
      go_wp2_with fail
      refine (C4.out w4 hc4).mono ?_
      rintro e w5 ⟨rfl, hb5⟩
      have hc5 := Nb hc4 hb5
      go_wp2_with fail
      refine (C5.out w5 hc5).mono ?_
      rintro e w6 ⟨rfl, hb6⟩
      have hc6 := Nb hc5 hb6
      go_wp2_with fail
      refine (C6.out w6 hc6).mono ?_
      rintro e w7 ⟨rfl, hb7⟩
      have hc7 := Nb hc6 hb7
      go_wp2_with fail
      refine (C7.out w7 hc7).mono ?_
      rintro e w8 ⟨rfl, hb8⟩
      have hc8 := Nb hc7 hb8
      go_wp2_with fail
      refine (C8.out w8 hc8).mono ?_
      rintro e w9 ⟨rfl, hb9⟩
      have hc9 := Nb hc8 hb9
      go_wp2_with fail
      refine (C9.out w9 hc9).mono ?_
      rintro e w10 ⟨rfl, hb10⟩
      have hc10 := Nb hc9 hb10
      go_wp2_with fail
      refine (C10.out w10 hc10).mono ?_
      rintro e w11 ⟨rfl, hb11⟩
      have hc11 := Nb hc10 hb11
      go_wp2_with fail
      go_loopg [19, 20] m (fun gf x y wx => ∃ a b : Nat, x = .int .i64 (a : Int) ∧ y = .int .i64 (b : Int) ∧ b ≤ gf ∧ a < 2147483648 ∧ b < 2147483648 ∧ Hid (Nat.gcd a b = Nat.gcd n m) ∧ Below W.heap.size W wx)
      case atStart => exact ⟨n, m, rfl, rfl, Nat.le_refl _, hn3, hm3, Lib.hid rfl, hc11⟩
      case round =>
        obtain ⟨a, b, rfl, rfl, hbg, ha3, hb3, HG, hbx⟩ := hrel
        by_cases hb0 : b = 0
        · have hgx : a = Nat.gcd n m := by rw [← HG.out, hb0, Nat.gcd_zero_right]
          have CX : Hid (∀ v, Below W.heap.size W v → Calls Tryd.prog 20 #[.int .i64 (a : Int)] v fun e w' => e = .returned (.string (tx (Nat.gcd n m))) ∧ Below v.heap.size v w') := Lib.hid fun v hb => by rw [← hgx]; exact of_any a v (by omega) (HPW.out v hb)
          clear hgx HG
          subst hb0
          go_wp2_with fail
          refine (C11.out wr hbx).mono ?_
          rintro e u1 ⟨rfl, hu1⟩
          have hv1 := Nb hbx hu1
          go_wp2_with fail
          refine (C12.out u1 hv1).mono ?_
          rintro e u2 ⟨rfl, hu2⟩
          have hv2 := Nb hv1 hu2
          go_wp2_with fail
          refine (C13.out u2 hv2).mono ?_
          rintro e u3 ⟨rfl, hu3⟩
          have hv3 := Nb hv2 hu3
          go_wp2_with fail
          refine (CX.out u3 hv3).mono ?_
          rintro e u4 ⟨rfl, hu4⟩
          have hv4 := Nb hv3 hu4
          go_wp2_with fail
          go_ret
          exact ⟨rfl, hv4⟩
        · obtain ⟨g', rfl⟩ : ∃ g', gk = g' + 1 := ⟨gk - 1, by omega⟩
          have hmod : a % b < b := Nat.mod_lt _ (by omega)
          have hmi : (a : Int) % (b : Int) = ((a % b : Nat) : Int) := by simp
          have HG2 : Hid (Nat.gcd b (a % b) = Nat.gcd n m) := Lib.hid (by rw [← HG.out, Nat.gcd_comm a b, Nat.gcd_rec b a, Nat.gcd_comm])
          have hbi : ¬ (b : Int) = 0 := by omega
          have hb0' : (0 : Int) < (b : Int) := by omega
          generalize a % b = r at *
          clear HG
          go_wp2_with fail
          go_quiet (fail)
          go_wp2_with fail
          go_roundg g'
          case measure => omega
          case rel => exact ⟨b, r, rfl, congrArg (Value.int IntKind.i64) hmi, by omega, hb3, by omega, HG2, drewB hbx nq⟩
end Go.Proofs.YtabebggkfjddbaaDoor
