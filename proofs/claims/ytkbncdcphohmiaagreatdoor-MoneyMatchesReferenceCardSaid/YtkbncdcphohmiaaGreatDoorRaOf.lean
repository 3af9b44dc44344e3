/- Package ratio: Of; texts of numbers and their parts. -/
import Derived.Test.YtkbncdcphohmiaaGreatDoorRaPP
set_option linter.unusedSimpArgs false
set_option linter.unusedVariables false
namespace Go.Proofs.YtkbncdcphohmiaaGreatDoor
open Go.RowKit
open Ra (Fit)
set_option maxRecDepth 100000

theorem hp_list (l : List UInt8) : hp ⟨l.toArray⟩ = decide (l.head? = some 45) := by
  unfold hp
  cases l with
  | nil => rfl
  | cons c l =>
    have h1 : 1 ≤ (⟨(c :: l).toArray⟩ : ByteArray).size := by rw [bsizeN]; simp
    rw [decide_eq_true h1, Bool.true_and, ByteArray.toList_eq, ByteArray.data_extract, Array.toList_extract]
    by_cases hc : c = 45
    · subst hc; simp
    · have : decide ((c :: l).head? = some 45) = false := by simpa using hc
      rw [this]
      simp [hc]
theorem cutM_list (l : List UInt8) : cutM ⟨l.toArray⟩ = if l.head? = some 45 then (⟨(l.drop 1).toArray⟩, true) else (⟨l.toArray⟩, false) := by
  unfold cutM
  rw [hp_list]
  by_cases h : l.head? = some 45
  · rw [decide_eq_true h, if_pos rfl, if_pos h]
    congr 1
    apply ByteArray.ext
    rw [ByteArray.data_extract]
    apply Array.toList_inj.1
    rw [Array.toList_extract, bsizeN]
    simp
    rw [List.take_of_length_le (by simp)]
  · rw [decide_eq_false h, if_neg (by simp), if_neg h]

theorem dec_head45 (n : Nat) : (Lib.decDigits n).head? ≠ some 45 := by
  have h1 := Na.dec_all n
  cases h : Lib.decDigits n with
  | nil => simp
  | cons c l =>
    rw [h] at h1
    simp only [List.all_cons, Bool.and_eq_true] at h1
    have := (Na.isD_iff c).1 h1.1
    intro e
    simp only [List.head?_cons, Option.some.injEq] at e
    rw [e] at this
    have k : (45 : UInt8).toNat = 45 := rfl
    omega
theorem dec_no47 (n : Nat) : (47 : UInt8) ∉ Lib.decDigits n := by
  intro h
  have h1 := List.all_eq_true.1 (Na.dec_all n) _ h
  have := (Na.isD_iff 47).1 h1
  have k : (47 : UInt8).toNat = 47 := rfl
  omega

theorem cutM_itoa (n : Int) : cutM ⟨(Lib.itoa n).toArray⟩ = (tx n.natAbs, decide (n < 0)) := by
  rw [cutM_list]
  unfold Lib.itoa
  by_cases h : n < 0
  · rw [if_pos h, if_pos (by simp), decide_eq_true h]
    rfl
  · rw [if_neg h, if_neg (dec_head45 _), decide_eq_false h]
    unfold tx
    rw [show n.toNat = n.natAbs by omega]

theorem itoaI (n : Int) (h0 : -9223372036854775808 ≤ n) (h1 : n ≤ 9223372036854775807) (w : World) (hp : Pow w.heap.size w) :
    Calls Tryz.prog 44 #[.int .i64 n] w fun e w' => e = .returned (.string ⟨(Lib.itoa n).toArray⟩) ∧ Below w.heap.size w w' := by
  refine (Tryz.strconv_Itoa n h0 h1 w hp.1).mono ?_
  rintro e w' ⟨rfl, k, os, rfl⟩
  exact ⟨rfl, Lib.below_grow _ _ (Nat.le_refl _) _ _⟩

def ofF5 (m n : Int) : R3 × Int := if n = 0 then (zeroR, 15) else (rf ((m : Rat) / (n : Rat)), 0)

theorem neg_inv' (b : Rat) : (-b)⁻¹ = -(b⁻¹) := by
  by_cases h : b = 0
  · subst h
    rw [Rat.neg_zero, Rat.inv_zero, Rat.neg_zero]
  · exact Rat.inv_eq_of_mul_eq_one (by rw [Rat.neg_mul, Rat.mul_neg, Rat.neg_neg]; exact Rat.mul_inv_cancel b h)

theorem mk_int (m n : Int) : Ra.mk (decide (m < 0) != decide (n < 0)) m.natAbs n.natAbs = (m : Rat) / (n : Rat) := by
  rw [Ra.mk_div]
  have k : ∀ i : Int, (i : Rat) = if i < 0 then -((i.natAbs : Nat) : Rat) else ((i.natAbs : Nat) : Rat) := by
    intro i
    split
    · rename_i h
      have : i = -((i.natAbs : Nat) : Int) := by omega
      conv => lhs; rw [this]
      rw [Rat.intCast_neg]
      rfl
    · rename_i h
      have : i = ((i.natAbs : Nat) : Int) := by omega
      conv => lhs; rw [this]
      rfl
  rw [k m, k n]
  by_cases h1 : m < 0 <;> by_cases h2 : n < 0 <;> simp only [h1, h2, decide_true, decide_false, bne_self_eq_false, if_true, if_false, Bool.false_eq_true, Rat.div_def, neg_inv'] <;> grind

theorem of_run (m n : Int) (x y : ByteArray) (s t : Bool) (xs ys : ByteArray) (r : R3) (e0 : Int) (w : World)
    (I1 : Hid (∀ v, Below w.heap.size w v → Calls Tryz.prog 44 #[.int .i64 m] v fun e w' => e = .returned (.string xs) ∧ Below v.heap.size v w'))
    (I2 : Hid (∀ v, Below w.heap.size w v → Calls Tryz.prog 44 #[.int .i64 n] v fun e w' => e = .returned (.string ys) ∧ Below v.heap.size v w'))
    (C1 : Hid (∀ v, Calls Tryz.prog 70 #[.string xs, .string ⟨#[45]⟩] v fun e w' => e = .returned (.tuple #[.string x, .bool s]) ∧ v = w'))
    (C2 : Hid (∀ v, Calls Tryz.prog 70 #[.string ys, .string ⟨#[45]⟩] v fun e w' => e = .returned (.tuple #[.string y, .bool t]) ∧ v = w'))
    (M : Hid (∀ v, Below w.heap.size w v → Calls Tryz.prog 63 #[.bool (s != t), .string x, .string y] v fun e w' => e = .returned (.tuple #[rV r, .int .i64 e0]) ∧ Below v.heap.size v w')) :
    Calls Tryz.prog 39 #[.int .i64 m, .int .i64 n] w fun e w' => e = .returned (.tuple #[rV r, .int .i64 e0]) ∧ Below w.heap.size w w' := by
  obtain ⟨s3, n3, d3⟩ := r
  have hb1 := al w (.cells #[.bool false, .string ⟨#[]⟩, .string ⟨#[]⟩] 32)
  have R1 := At.new w false ⟨#[]⟩ ⟨#[]⟩
  unfold rV at M ⊢
  simp only at M ⊢
  go_enter Tryz.func39, Tryz.ntmps39
  go_wp2_with fail
  refine (I1.out _ hb1).mono ?_
  rintro e w2 ⟨rfl, h2⟩
  have hb2 := Nb hb1 h2
  have R2 := R1.bt h2
  clear hb1 R1 h2
  go_wp2_with fail
  refine (C1.out _).mono ?_
  rintro e w2' ⟨rfl, rfl⟩
  go_wp2_with fail
  refine (I2.out _ hb2).mono ?_
  rintro e w3 ⟨rfl, h3⟩
  have hb3 := Nb hb2 h3
  have R3 := R2.bt h3
  clear hb2 R2 h3
  go_wp2_with fail
  refine (C2.out _).mono ?_
  rintro e w3' ⟨rfl, rfl⟩
  go_wp2_with fail
  refine (M.out _ hb3).mono ?_
  rintro e w4 ⟨rfl, h4⟩
  have hb4 := Nb hb3 h4
  have R4 := R3.bt h4
  clear hb3 R3 h4
  obtain ⟨r0, r1, r2, f0, f1, f2⟩ := R4.cells
  go_wp2_with fail
  exact bodyPost_ret (out2 Tryz.results39 _ _ _ _ _ rfl rfl (R4.set _ _ _)) rfl ⟨rfl, Bset2 hb4 (by omega) _ _ _⟩

theorem i64_lim {n : Nat} (h : n < 10 ^ 100) : n < LIM := small h
theorem opOf (m n : Int) (w : World) (hP : Pw w.heap.size w) (hm : -9223372036854775808 ≤ m ∧ m ≤ 9223372036854775807) (hn : -9223372036854775808 ≤ n ∧ n ≤ 9223372036854775807) :
    Calls Tryz.prog 39 #[.int .i64 m, .int .i64 n] w fun e w' => e = .returned (.tuple #[rV (ofF5 m n).1, .int .i64 (ofF5 m n).2]) ∧ Below w.heap.size w w' := by
  have I1 := Lib.hid (fun v (h : Below w.heap.size w v) => itoaI m hm.1 hm.2 v (hP.bt h).1)
  have I2 := Lib.hid (fun v (h : Below w.heap.size w v) => itoaI n hn.1 hn.2 v (hP.bt h).1)
  have z : ∀ i : Int, -9223372036854775808 ≤ i → i ≤ 9223372036854775807 → i.natAbs < LIM := fun i h1 h2 => small (Nat.lt_of_lt_of_le (show i.natAbs < 10 ^ 20 by omega) (Nat.pow_le_pow_right (by omega) (by omega)))
  have zs : ∀ i : Int, -9223372036854775808 ≤ i → i ≤ 9223372036854775807 → (⟨(Lib.itoa i).toArray⟩ : ByteArray).size ≤ maxLen := by
    intro i h1 h2
    have := tx_len (z i h1 h2)
    rw [tx_size] at this
    rw [bsizeN]
    unfold Lib.itoa
    unfold maxLen at *
    have k : (Lib.decDigits i.natAbs).length ≤ 300 := by
      have hb := isB_txl (z i h1 h2)
      unfold isB at hb
      rw [Bool.and_eq_true, decide_eq_true_eq, tx_size] at hb
      exact hb.2
    split
    · simp only [List.length_cons]; omega
    · rw [show i.toNat = i.natAbs by omega]; omega
  have C1 := Lib.hid (fun v => cutpre_any ⟨(Lib.itoa m).toArray⟩ v (zs m hm.1 hm.2))
  have C2 := Lib.hid (fun v => cutpre_any ⟨(Lib.itoa n).toArray⟩ v (zs n hn.1 hn.2))
  rw [cutM_itoa] at C1 C2
  have lm := z m hm.1 hm.2
  have ln := z n hn.1 hn.2
  have M := Lib.hid (fun v (h : Below w.heap.size w v) => makeF_any (decide (m < 0) != decide (n < 0), tx m.natAbs, tx n.natAbs) v (hP.bt h) (tx_len lm) (tx_len ln))
  have e : makeF (decide (m < 0) != decide (n < 0), tx m.natAbs, tx n.natAbs) = ofF5 m n := by
    unfold makeF ofF5 qv
    simp only [isB_txl lm, isB_txl ln, nv_tx, Bool.and_self, if_true]
    rw [mk_int]
    by_cases h0 : n = 0
    · rw [if_pos h0, if_pos (by omega)]
    · rw [if_neg h0, if_neg (by omega)]
  rw [e] at M
  exact of_run m n _ _ _ _ _ _ _ _ w I1 I2 C1 C2 M

/- Texts and their parts. -/
theorem cutAt_no : ∀ l : List UInt8, (47 : UInt8) ∉ l → cutAt l = (l, [], false)
  | [], _ => rfl
  | c :: l, h => by
    have h1 : c ≠ 47 := fun e => h (by simp [e])
    have h2 : (47 : UInt8) ∉ l := fun e => h (by simp [e])
    unfold cutAt
    rw [if_neg h1, cutAt_no l h2]
theorem cutAt_app : ∀ (l m : List UInt8), (47 : UInt8) ∉ l → cutAt (l ++ 47 :: m) = (l, m, true)
  | [], m, _ => rfl
  | c :: l, m, h => by
    have h1 : c ≠ 47 := fun e => h (by simp [e])
    have h2 : (47 : UInt8) ∉ l := fun e => h (by simp [e])
    rw [List.cons_append]
    unfold cutAt
    rw [if_neg h1, cutAt_app l m h2]

theorem tR_rf (q : Rat) : tR (rf q) = ⟨((if decide (q < 0) then [45] else []) ++ Lib.decDigits q.num.natAbs ++ (if q.den = 1 then [] else 47 :: Lib.decDigits q.den)).toArray⟩ := by
  unfold tR rf
  simp only
  have e : (tx q.den = ⟨#[49]⟩) = (q.den = 1) := by
    rw [← tx_one]
    exact propext ⟨tx_inj, fun h => by rw [h]⟩
  apply ByteArray.ext
  apply Array.toList_inj.1
  simp only [e]
  rw [ByteArray.data_append, ByteArray.data_append, Array.toList_append, Array.toList_append]
  by_cases h1 : q < 0 <;> by_cases h2 : q.den = 1 <;> simp [h1, h2, tx, ByteArray.data_append]

theorem head_app (a b : List UInt8) (h : a ≠ []) : (a ++ b).head? = a.head? := by
  cases a with
  | nil => exact absurd rfl h
  | cons c l => rfl

theorem spl_tR (q : Rat) : spl (tR (rf q)) = rf q := by
  rw [tR_rf]
  unfold spl
  rw [cutM_list]
  generalize hL : Lib.decDigits q.num.natAbs ++ (if q.den = 1 then [] else 47 :: Lib.decDigits q.den) = L
  have hL' : cutS ⟨L.toArray⟩ = if q.den = 1 then (tx q.num.natAbs, ⟨#[]⟩, false) else (tx q.num.natAbs, tx q.den, true) := by
    unfold cutS
    rw [show ((⟨L.toArray⟩ : ByteArray).data.toList) = L from rfl, cut_at, ← hL]
    by_cases h : q.den = 1
    · rw [if_pos h, if_pos h, List.append_nil, cutAt_no _ (dec_no47 _)]
      rfl
    · rw [if_neg h, if_neg h, cutAt_app _ _ (dec_no47 _)]
      rfl
  have hh : L.head? ≠ some 45 := by
    rw [← hL, head_app _ _ (Na.dec_ne _)]
    exact dec_head45 _
  have hs : cutM ⟨((if decide (q < 0) = true then [45] else []) ++ Lib.decDigits q.num.natAbs ++ (if q.den = 1 then [] else 47 :: Lib.decDigits q.den)).toArray⟩ = (⟨L.toArray⟩, decide (q < 0)) := by
    rw [cutM_list, List.append_assoc, hL]
    by_cases h : q < 0
    · simp [h]
    · simp [h, hh]
  rw [cutM_list] at hs
  rw [hs, hL']
  unfold rf
  by_cases h : q.den = 1
  · rw [if_pos h, h, tx_one]
    rfl
  · rw [if_neg h]
    rfl

theorem parse_tR (q : Rat) (h : Fit LIM q) : parseF (tR (rf q)) = (rf q, 0) := by
  unfold parseF
  rw [spl_tR, (vR_rf q).2 h, decide_eq_true rfl]
  rfl
theorem parse_ok (t : ByteArray) : (vR (parseF t).1 = true ∧ tR (parseF t).1 = t ∧ (parseF t).2 = 0) ∨ parseF t = (zeroR, 5) := by
  unfold parseF
  split
  · rename_i h
    rw [Bool.and_eq_true, decide_eq_true_eq] at h
    exact .inl ⟨h.1, h.2, rfl⟩
  · exact .inr rfl
end Go.Proofs.YtkbncdcphohmiaaGreatDoor
