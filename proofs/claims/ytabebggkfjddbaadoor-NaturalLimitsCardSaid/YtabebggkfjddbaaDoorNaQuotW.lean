/- NaturalQuotients walked. -/
import Derived.Test.YtabebggkfjddbaaDoorNaSpec
set_option linter.unusedSimpArgs false
set_option linter.unusedVariables false
namespace Go.Proofs.YtabebggkfjddbaaDoor
open Go.RowKit
set_option maxRecDepth 100000

def zr : ByteArray := ⟨#[48]⟩
theorem tx_zero : tx 0 = ⟨#[48]⟩ := tx_of [48] 0 (by decide) (by decide)

theorem ne48 {b : ByteArray} (h : b ≠ ⟨#[48]⟩) : (b.toList == [48]) = false := by
  have := bytes_ne h
  rwa [show (⟨#[48]⟩ : ByteArray).toList = [48] by rw [ByteArray.toList_eq]] at this

theorem nv_pos {b : ByteArray} (hb : isB b = true) (h : b ≠ ⟨#[48]⟩) : nv b ≠ 0 := fun e => by
  have := (isB_lt hb).2
  rw [e, tx_zero] at this
  exact h this.symm

theorem div_make {s t q r : ByteArray} {e : Int} (h : divF s t = (q, r, e)) (h1 : isB s = true) (h2 : isB t = true) (h0 : nv t ≠ 0) : q = tx (nv s / nv t) ∧ r = tx (nv s % nv t) ∧ e = 0 := by
  unfold divF at h
  rw [h1, h2] at h
  simp only [Bool.and_self, if_true, h0, if_false] at h
  injection h with h3 h4
  injection h4 with h5 h6
  exact ⟨h3.symm, h5.symm, h6.symm⟩

theorem cmp_make {s t : ByteArray} {c e : Int} (h : cmpF s t = (c, e)) (h1 : isB s = true) (h2 : isB t = true) : c = cmpN (nv s) (nv t) ∧ e = 0 := by
  unfold cmpF at h
  rw [h1, h2] at h
  simp only [Bool.and_self, if_true] at h
  injection h with h3 h4
  exact ⟨h3.symm, h4.symm⟩

set_option maxHeartbeats 4000000 in
theorem quotientsW (a b c : ByteArray) (W : World) (hp : Pow W.heap.size W) (L_a : a.size ≤ maxLen) (L_b : b.size ≤ maxLen) (L_c : c.size ≤ maxLen) :
    Calls Tryd.prog 9 #[.string a, .string b, .string c] W fun e w' => e = .returned (.bool true) ∧ Below W.heap.size W w' := by
  have HPW := Lib.hid (fun (v : World) (hb : Below W.heap.size W v) => hp.bt hb)
  clear hp
  by_cases hB_a : isB a = true
  rotate_left
  · replace hB_a : isB a = false := by simpa using hB_a
    have C0 : Hid (∀ v, Below W.heap.size W v → Calls Tryd.prog 13 #[] v fun e w' => e = .returned (.bool true) ∧ Below v.heap.size v w') := Lib.hid fun v hb => head_any v (HPW.out v hb)
    have C1 : Hid (∀ v, Below W.heap.size W v → Calls Tryd.prog 18 #[.string a] v fun e w' => e = .returned (.bool false) ∧ Below v.heap.size v w') := Lib.hid fun v hb => by have := is_any a v L_a; rwa [hB_a] at this
    go_enter Tryd.func9, Tryd.ntmps9
    go_wp2_with fail
    refine (C0.out W (Below.refl W.heap.size W)).mono ?_
    rintro e w1 ⟨rfl, hb1⟩
    have hc1 := Nb (Below.refl W.heap.size W) hb1
    go_wp2_with fail
    refine (C1.out w1 hc1).mono ?_
    rintro e w2 ⟨rfl, hb2⟩
    have hc2 := Nb hc1 hb2
    go_wp2_with fail
    go_ret
    exact ⟨rfl, hc2⟩
  by_cases hB_b : isB b = true
  rotate_left
  · replace hB_b : isB b = false := by simpa using hB_b
    have C0 : Hid (∀ v, Below W.heap.size W v → Calls Tryd.prog 13 #[] v fun e w' => e = .returned (.bool true) ∧ Below v.heap.size v w') := Lib.hid fun v hb => head_any v (HPW.out v hb)
    have C1 : Hid (∀ v, Below W.heap.size W v → Calls Tryd.prog 18 #[.string a] v fun e w' => e = .returned (.bool true) ∧ Below v.heap.size v w') := Lib.hid fun v hb => by have := is_any a v L_a; rwa [hB_a] at this
    have C2 : Hid (∀ v, Below W.heap.size W v → Calls Tryd.prog 18 #[.string b] v fun e w' => e = .returned (.bool false) ∧ Below v.heap.size v w') := Lib.hid fun v hb => by have := is_any b v L_b; rwa [hB_b] at this
    go_enter Tryd.func9, Tryd.ntmps9
    go_wp2_with fail
    refine (C0.out W (Below.refl W.heap.size W)).mono ?_
    rintro e w1 ⟨rfl, hb1⟩
    have hc1 := Nb (Below.refl W.heap.size W) hb1
    go_wp2_with fail
    refine (C1.out w1 hc1).mono ?_
    rintro e w2 ⟨rfl, hb2⟩
    have hc2 := Nb hc1 hb2
    go_wp2_with fail
    refine (C2.out w2 hc2).mono ?_
    rintro e w3 ⟨rfl, hb3⟩
    have hc3 := Nb hc2 hb3
    go_wp2_with fail
    go_ret
    exact ⟨rfl, hc3⟩
  by_cases hB_c : isB c = true
  rotate_left
  · replace hB_c : isB c = false := by simpa using hB_c
    have C0 : Hid (∀ v, Below W.heap.size W v → Calls Tryd.prog 13 #[] v fun e w' => e = .returned (.bool true) ∧ Below v.heap.size v w') := Lib.hid fun v hb => head_any v (HPW.out v hb)
    have C1 : Hid (∀ v, Below W.heap.size W v → Calls Tryd.prog 18 #[.string a] v fun e w' => e = .returned (.bool true) ∧ Below v.heap.size v w') := Lib.hid fun v hb => by have := is_any a v L_a; rwa [hB_a] at this
    have C2 : Hid (∀ v, Below W.heap.size W v → Calls Tryd.prog 18 #[.string b] v fun e w' => e = .returned (.bool true) ∧ Below v.heap.size v w') := Lib.hid fun v hb => by have := is_any b v L_b; rwa [hB_b] at this
    have C3 : Hid (∀ v, Below W.heap.size W v → Calls Tryd.prog 18 #[.string c] v fun e w' => e = .returned (.bool false) ∧ Below v.heap.size v w') := Lib.hid fun v hb => by have := is_any c v L_c; rwa [hB_c] at this
    go_enter Tryd.func9, Tryd.ntmps9
    go_wp2_with fail
    refine (C0.out W (Below.refl W.heap.size W)).mono ?_
    rintro e w1 ⟨rfl, hb1⟩
    have hc1 := Nb (Below.refl W.heap.size W) hb1
    go_wp2_with fail
    refine (C1.out w1 hc1).mono ?_
    rintro e w2 ⟨rfl, hb2⟩
    have hc2 := Nb hc1 hb2
    go_wp2_with fail
    refine (C2.out w2 hc2).mono ?_
    rintro e w3 ⟨rfl, hb3⟩
    have hc3 := Nb hc2 hb3
    go_wp2_with fail
    refine (C3.out w3 hc3).mono ?_
    rintro e w4 ⟨rfl, hb4⟩
    have hc4 := Nb hc3 hb4
    go_wp2_with fail
    go_ret
    exact ⟨rfl, hc4⟩
  have C0 : Hid (∀ v, Below W.heap.size W v → Calls Tryd.prog 13 #[] v fun e w' => e = .returned (.bool true) ∧ Below v.heap.size v w') := Lib.hid fun v hb => head_any v (HPW.out v hb)
  have C1 : Hid (∀ v, Below W.heap.size W v → Calls Tryd.prog 18 #[.string a] v fun e w' => e = .returned (.bool true) ∧ Below v.heap.size v w') := Lib.hid fun v hb => by have := is_any a v L_a; rwa [hB_a] at this
  have C2 : Hid (∀ v, Below W.heap.size W v → Calls Tryd.prog 18 #[.string b] v fun e w' => e = .returned (.bool true) ∧ Below v.heap.size v w') := Lib.hid fun v hb => by have := is_any b v L_b; rwa [hB_b] at this
  have C3 : Hid (∀ v, Below W.heap.size W v → Calls Tryd.prog 18 #[.string c] v fun e w' => e = .returned (.bool true) ∧ Below v.heap.size v w') := Lib.hid fun v hb => by have := is_any c v L_c; rwa [hB_c] at this
  by_cases hb0 : b = ⟨#[48]⟩
  · subst hb0
    go_enter Tryd.func9, Tryd.ntmps9
    go_wp2_with fail
    refine (C0.out W (Below.refl W.heap.size W)).mono ?_
    rintro e w1 ⟨rfl, hb1⟩
    have hc1 := Nb (Below.refl W.heap.size W) hb1
    go_wp2_with fail
    refine (C1.out w1 hc1).mono ?_
    rintro e w2 ⟨rfl, hb2⟩
    have hc2 := Nb hc1 hb2
    go_wp2_with fail
    refine (C2.out w2 hc2).mono ?_
    rintro e w3 ⟨rfl, hb3⟩
    have hc3 := Nb hc2 hb3
    go_wp2_with fail
    refine (C3.out w3 hc3).mono ?_
    rintro e w4 ⟨rfl, hb4⟩
    have hc4 := Nb hc3 hb4
    go_wp2_with fail
    go_ret
    exact ⟨rfl, hc4⟩
  obtain ⟨q, r, e4, h4⟩ : ∃ q r e, divF a b = (q, r, e) := ⟨_, _, _, rfl⟩
  have L_q : q.size ≤ maxLen := by have := (div_len a b).1; rwa [h4] at this
  have L_r : r.size ≤ maxLen := by have := (div_len a b).2; rwa [h4] at this
  have C4 : Hid (∀ v, Below W.heap.size W v → Calls Tryd.prog 28 #[.string a, .string b] v fun e w' => e = .returned (.tuple #[.string q, .string r, .int .i64 e4]) ∧ Below v.heap.size v w') := Lib.hid fun v hb => by have := divideF a b v L_a L_b (HPW.out v hb); rwa [h4] at this
  obtain ⟨p, e5, h5⟩ : ∃ x e, opF (fun m n => m * n) q b = (x, e) := ⟨_, _, rfl⟩
  have L_p : p.size ≤ maxLen := by have := op_len (fun m n => m * n) q b; rwa [h5] at this
  have C5 : Hid (∀ v, Below W.heap.size W v → Calls Tryd.prog 26 #[.string q, .string b] v fun e w' => e = .returned (.tuple #[.string p, .int .i64 e5]) ∧ Below v.heap.size v w') := Lib.hid fun v hb => by have := mulF q b v L_q L_b (HPW.out v hb); rwa [h5] at this
  obtain ⟨s, e6, h6⟩ : ∃ x e, opF (fun m n => m + n) p r = (x, e) := ⟨_, _, rfl⟩
  have L_s : s.size ≤ maxLen := by have := op_len (fun m n => m + n) p r; rwa [h6] at this
  have C6 : Hid (∀ v, Below W.heap.size W v → Calls Tryd.prog 22 #[.string p, .string r] v fun e w' => e = .returned (.tuple #[.string s, .int .i64 e6]) ∧ Below v.heap.size v w') := Lib.hid fun v hb => by have := addF p r v L_p L_r (HPW.out v hb); rwa [h6] at this
  obtain ⟨n7, e7, h7⟩ : ∃ c e, cmpF r b = (c, e) := ⟨_, _, rfl⟩
  have C7 : Hid (∀ v, Below W.heap.size W v → Calls Tryd.prog 16 #[.string r, .string b] v fun e w' => e = .returned (.tuple #[.int .i64 n7, .int .i64 e7]) ∧ Below v.heap.size v w') := Lib.hid fun v hb => by have := compareF r b v L_r L_b; rwa [h7] at this
  obtain ⟨p8, e8, h8⟩ : ∃ x e, opF (fun m n => m * n) c b = (x, e) := ⟨_, _, rfl⟩
  have L_p8 : p8.size ≤ maxLen := by have := op_len (fun m n => m * n) c b; rwa [h8] at this
  have C8 : Hid (∀ v, Below W.heap.size W v → Calls Tryd.prog 26 #[.string c, .string b] v fun e w' => e = .returned (.tuple #[.string p8, .int .i64 e8]) ∧ Below v.heap.size v w') := Lib.hid fun v hb => by have := mulF c b v L_c L_b (HPW.out v hb); rwa [h8] at this
  obtain ⟨s9, e9, h9⟩ : ∃ x e, opF (fun m n => m + n) p8 r = (x, e) := ⟨_, _, rfl⟩
  have L_s9 : s9.size ≤ maxLen := by have := op_len (fun m n => m + n) p8 r; rwa [h9] at this
  have C9 : Hid (∀ v, Below W.heap.size W v → Calls Tryd.prog 22 #[.string p8, .string r] v fun e w' => e = .returned (.tuple #[.string s9, .int .i64 e9]) ∧ Below v.heap.size v w') := Lib.hid fun v hb => by have := addF p8 r v L_p8 L_r (HPW.out v hb); rwa [h9] at this
  obtain ⟨x, y, e10, h10⟩ : ∃ q r e, divF s9 b = (q, r, e) := ⟨_, _, _, rfl⟩
  have L_x : x.size ≤ maxLen := by have := (div_len s9 b).1; rwa [h10] at this
  have L_y : y.size ≤ maxLen := by have := (div_len s9 b).2; rwa [h10] at this
  have C10 : Hid (∀ v, Below W.heap.size W v → Calls Tryd.prog 28 #[.string s9, .string b] v fun e w' => e = .returned (.tuple #[.string x, .string y, .int .i64 e10]) ∧ Below v.heap.size v w') := Lib.hid fun v hb => by have := divideF s9 b v L_s9 L_b (HPW.out v hb); rwa [h10] at this
  have hbn := ne48 hb0
  have hbn2 : b.toList ≠ [48] := by simpa using hbn
  have hB := nv_pos hB_b hb0
  obtain ⟨la, ta⟩ := isB_lt hB_a
  obtain ⟨lb, tb⟩ := isB_lt hB_b
  obtain ⟨lc, tc⟩ := isB_lt hB_c
  obtain ⟨rq, rr, rfl⟩ := div_make h4 hB_a hB_b hB
  have nq : nv q = nv a / nv b := by rw [rq, nv_tx]
  have nr : nv r = nv a % nv b := by rw [rr, nv_tx]
  have hrl : nv r < nv b := by rw [nr]; exact Nat.mod_lt _ (by omega)
  have hBq : isB q = true := by rw [rq]; exact isB_txl (Nat.lt_of_le_of_lt (Nat.div_le_self _ _) la)
  have hBr : isB r = true := by rw [rr]; exact isB_txl (Nat.lt_of_le_of_lt (Nat.mod_le _ _) la)
  have hqb : nv q * nv b + nv r = nv a := by rw [nq, nr, Nat.mul_comm]; exact Nat.div_add_mod _ _
  obtain ⟨rp, rfl⟩ := op_make h5 hBq hB_b (by show nv q * nv b < LIM; omega)
  have np : nv p = nv q * nv b := by rw [rp, nv_tx]
  obtain ⟨rs, rfl⟩ := op_make h6 (by rw [rp]; exact isB_txl (by show nv q * nv b < LIM; omega)) hBr (by show nv p + nv r < LIM; rw [np]; omega)
  have hsa : s = a := by
    rw [rs]
    show tx (nv p + nv r) = a
    rw [np, hqb, ta]
  obtain ⟨rn, rfl⟩ := cmp_make h7 hBr hB_b
  have hn7 : n7 = -1 := by rw [rn]; unfold cmpN; rw [if_pos hrl]
  have M9 : e8 = 0 → e9 = 0 → x = c ∧ y = r ∧ e10 = 0 := by
    intro k8 k9
    have n8 : nv p8 = nv c * nv b := (op_zero h8 k8).2.2.2.1
    obtain ⟨_, _, r9, n9, l9⟩ := op_zero h9 k9
    have hs9 : isB s9 = true := by rw [r9]; exact isB_txl l9
    obtain ⟨r1, r2, r3⟩ := div_make h10 hs9 hB_b hB
    have n9' : nv s9 = nv c * nv b + nv r := by rw [n9, ← n8]
    obtain ⟨d1, d2⟩ := Na.quot_rem (nv s9) (nv b) (nv c) (nv r) n9' hrl
    rw [d1, tc] at r1
    rw [d2] at r2
    refine ⟨r1, ?_, r3⟩
    rw [r2, nr, ← rr]
  subst hsa
  subst hn7
  clear h4 h5 h6 h7 h8 h9 h10 la ta lb tb lc tc rq rr nq nr hrl hBq hBr hqb rp np rs rn hB hb0 HPW hB_a hB_b hB_c
  by_cases k8 : e8 = 0
  rotate_left
  · obtain ⟨n8, m8⟩ := nez k8
    clear M9
    go_enter Tryd.func9, Tryd.ntmps9
    go_wp2_with fail
    refine (C0.out W (Below.refl W.heap.size W)).mono ?_
    rintro e w1 ⟨rfl, hb1⟩
    have hc1 := Nb (Below.refl W.heap.size W) hb1
    go_wp2_with fail
    refine (C1.out w1 hc1).mono ?_
    rintro e w2 ⟨rfl, hb2⟩
    have hc2 := Nb hc1 hb2
    go_wp2_with fail
    refine (C2.out w2 hc2).mono ?_
    rintro e w3 ⟨rfl, hb3⟩
    have hc3 := Nb hc2 hb3
    go_wp2_with fail
    refine (C3.out w3 hc3).mono ?_
    rintro e w4 ⟨rfl, hb4⟩
    have hc4 := Nb hc3 hb4
    go_wp2_with fail
    refine (C4.out w4 hc4).mono ?_
    rintro e w5 ⟨rfl, hb5⟩
    have hc5 := Nb hc4 hb5
    go_wp2_with fail
    refine (C5.out w5 hc5).mono ?_
    rintro e w6 ⟨rfl, hb6⟩
    have hc6 := Nb hc5 hb6
    go_wp2_with fail
    refine (C6.out w6 hc6).mono ?_
    rintro e w7 ⟨rfl, hb7⟩
    have hc7 := Nb hc6 hb7
    go_wp2_with fail
    refine (C7.out w7 hc7).mono ?_
    rintro e w8 ⟨rfl, hb8⟩
    have hc8 := Nb hc7 hb8
    go_wp2_with fail
    refine (C8.out w8 hc8).mono ?_
    rintro e w9 ⟨rfl, hb9⟩
    have hc9 := Nb hc8 hb9
    go_wp2_with fail
    refine (C9.out w9 hc9).mono ?_
    rintro e w10 ⟨rfl, hb10⟩
    have hc10 := Nb hc9 hb10
    go_wp2_with fail
    go_ret
    exact ⟨rfl, hc10⟩
  by_cases k9 : e9 = 0
  rotate_left
  · obtain ⟨n9, m9⟩ := nez k9
    clear M9
    subst k8
    go_enter Tryd.func9, Tryd.ntmps9
    go_wp2_with fail
    refine (C0.out W (Below.refl W.heap.size W)).mono ?_
    rintro e w1 ⟨rfl, hb1⟩
    have hc1 := Nb (Below.refl W.heap.size W) hb1
    go_wp2_with fail
    refine (C1.out w1 hc1).mono ?_
    rintro e w2 ⟨rfl, hb2⟩
    have hc2 := Nb hc1 hb2
    go_wp2_with fail
    refine (C2.out w2 hc2).mono ?_
    rintro e w3 ⟨rfl, hb3⟩
    have hc3 := Nb hc2 hb3
    go_wp2_with fail
    refine (C3.out w3 hc3).mono ?_
    rintro e w4 ⟨rfl, hb4⟩
    have hc4 := Nb hc3 hb4
    go_wp2_with fail
    refine (C4.out w4 hc4).mono ?_
    rintro e w5 ⟨rfl, hb5⟩
    have hc5 := Nb hc4 hb5
    go_wp2_with fail
    refine (C5.out w5 hc5).mono ?_
    rintro e w6 ⟨rfl, hb6⟩
    have hc6 := Nb hc5 hb6
    go_wp2_with fail
    refine (C6.out w6 hc6).mono ?_
    rintro e w7 ⟨rfl, hb7⟩
    have hc7 := Nb hc6 hb7
    go_wp2_with fail
    refine (C7.out w7 hc7).mono ?_
    rintro e w8 ⟨rfl, hb8⟩
    have hc8 := Nb hc7 hb8
    go_wp2_with fail
    refine (C8.out w8 hc8).mono ?_
    rintro e w9 ⟨rfl, hb9⟩
    have hc9 := Nb hc8 hb9
    go_wp2_with fail
    refine (C9.out w9 hc9).mono ?_
    rintro e w10 ⟨rfl, hb10⟩
    have hc10 := Nb hc9 hb10
    go_wp2_with fail
    go_ret
    exact ⟨rfl, hc10⟩
  obtain ⟨rfl, rfl, rfl⟩ := M9 k8 k9
  clear M9
  subst k8
  subst k9
  go_enter Tryd.func9, Tryd.ntmps9
  go_wp2_with fail
  refine (C0.out W (Below.refl W.heap.size W)).mono ?_
  rintro e w1 ⟨rfl, hb1⟩
  have hc1 := Nb (Below.refl W.heap.size W) hb1
  go_wp2_with fail
  refine (C1.out w1 hc1).mono ?_
  rintro e w2 ⟨rfl, hb2⟩
  have hc2 := Nb hc1 hb2
  go_wp2_with fail
  refine (C2.out w2 hc2).mono ?_
  rintro e w3 ⟨rfl, hb3⟩
  have hc3 := Nb hc2 hb3
  go_wp2_with fail
  refine (C3.out w3 hc3).mono ?_
  rintro e w4 ⟨rfl, hb4⟩
  have hc4 := Nb hc3 hb4
  go_wp2_with fail
  refine (C4.out w4 hc4).mono ?_
  rintro e w5 ⟨rfl, hb5⟩
  have hc5 := Nb hc4 hb5
  go_wp2_with fail
  refine (C5.out w5 hc5).mono ?_
  rintro e w6 ⟨rfl, hb6⟩
  have hc6 := Nb hc5 hb6
  go_wp2_with fail
  refine (C6.out w6 hc6).mono ?_
  rintro e w7 ⟨rfl, hb7⟩
  have hc7 := Nb hc6 hb7
  go_wp2_with fail
  refine (C7.out w7 hc7).mono ?_
  rintro e w8 ⟨rfl, hb8⟩
  have hc8 := Nb hc7 hb8
  go_wp2_with fail
  refine (C8.out w8 hc8).mono ?_
  rintro e w9 ⟨rfl, hb9⟩
  have hc9 := Nb hc8 hb9
  go_wp2_with fail
  refine (C9.out w9 hc9).mono ?_
  rintro e w10 ⟨rfl, hb10⟩
  have hc10 := Nb hc9 hb10
  go_wp2_with fail
  refine (C10.out w10 hc10).mono ?_
  rintro e w11 ⟨rfl, hb11⟩
  have hc11 := Nb hc10 hb11
  go_wp2_with fail
  go_ret
  exact ⟨rfl, hc11⟩
end Go.Proofs.YtabebggkfjddbaaDoor
