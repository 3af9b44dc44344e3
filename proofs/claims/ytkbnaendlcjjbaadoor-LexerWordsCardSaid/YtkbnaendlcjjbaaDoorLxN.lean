/- Layer 7: the reference's Name and Decimal; the tokens of four words. -/
import Derived.Test.YtkbnaendlcjjbaaDoorLxJ
import Derived.Test.YtkbnaendlcjjbaaDoorLxAgW
set_option linter.unusedSimpArgs false
set_option linter.unusedVariables false
namespace Go.Proofs.YtkbnaendlcjjbaaDoor
open Go.RowKit
set_option maxRecDepth 100000

def Lx.nameOk (l : List UInt8) : Bool := l.all Lx.isWord && (decide (0 < l.length) && (decide (l.length ≤ 24) && Lx.hd Lx.isLet l))
set_option maxHeartbeats 1000000 in
theorem Lx.nameR_any (s : ByteArray) (w : World) (hs : s.size ≤ maxLen) : Calls Tryd.prog 20 #[.string s] w fun e w' => e = .returned (.bool (Lx.nameOk s.data.toList)) ∧ w = w' := by
  have hle := Lx.len s
  have HLE := Lib.hid hle
  unfold maxLen at hs
  obtain ⟨r, hr⟩ : ∃ r, r = Lx.nameOk s.data.toList := ⟨_, rfl⟩
  rw [← hr]
  unfold Lx.nameOk at hr
  rw [hle] at hr
  have HR := Lib.hid hr
  clear hr hle
  go_enter Tryd.func20, Tryd.ntmps20
  go_wp2
  go_loop [3] (fun i => ∃ k : Nat, k ≤ s.size ∧ i = .int .i64 k ∧ Hid (∀ x ∈ s.data.toList.take k, Lx.isWord x = true)) (fun i => s.size - (intOf i).toNat)
  case atStart => exact ⟨0, by omega, rfl, Lib.hid (by simp)⟩
  case round =>
    obtain ⟨k, hk, rfl, hq⟩ := hrel
    by_cases hlt : k < s.size
    · have hlt' : (k : Int) < (s.size : Int) := by omega
      obtain ⟨x, hx⟩ : ∃ x : UInt8, s[k]'hlt = x := ⟨_, rfl⟩
      have hxl : s.data.toList[k]? = some x := by rw [← hx]; exact Lib.data_getElem? s k hlt
      have HX := Lib.hid hxl
      have CW := Lib.hid (fun v => Lx.word_any x v)
      clear hxl
      cases hw : Lx.isWord x
      · rw [hw] at CW
        have HF : Hid (r = false) := Lib.hid (by
          rw [HR.out]
          have : s.data.toList.all Lx.isWord = false := List.all_eq_false.2 ⟨x, List.mem_of_getElem? HX.out, by simp [hw]⟩
          rw [this]
          rfl)
        clear hw HR hq HX
        go_wp2_with fail
        refine (CW.out _).mono ?_
        rintro e w1 ⟨rfl, rfl⟩
        go_wp2_with fail
        go_ret
        exact ⟨by rw [HF.out]; rfl, rfl⟩
      · rw [hw] at CW
        have hq' : Hid (∀ y ∈ s.data.toList.take (k + 1), Lx.isWord y = true) := Lib.hid (by
          intro y hy
          rw [List.take_add_one, HX.out] at hy
          rcases List.mem_append.1 hy with hy | hy
          · exact hq.out y hy
          · simp at hy
            rw [hy]
            exact hw)
        clear hw HX hq
        go_wp2_with fail
        refine (CW.out _).mono ?_
        rintro e w1 ⟨rfl, rfl⟩
        go_wp2_with fail
        exact ⟨⟨k + 1, by omega, by go_num, hq'⟩, by simp [intOf]; omega⟩
    · obtain rfl : k = s.size := by omega
      have hall : s.data.toList.all Lx.isWord = true := List.all_eq_true.2 (by
        have := hq.out
        rw [← HLE.out, List.take_length] at this
        exact this)
      have HR2 : Hid (r = (decide (0 < s.size) && (decide (s.size ≤ 24) && Lx.hd Lx.isLet s.data.toList))) := Lib.hid (by rw [HR.out, hall]; rfl)
      clear hall hq HR
      by_cases h0 : 0 < s.size
      · have d1 : decide ((0 : Int) < (s.size : Int)) = true := decide_eq_true (by omega)
        have d2 : decide (0 < s.size) = true := decide_eq_true h0
        by_cases h24 : s.size ≤ 24
        · have e1 : decide ((s.size : Int) ≤ 24) = true := decide_eq_true (by omega)
          have e2 : decide (s.size ≤ 24) = true := decide_eq_true h24
          obtain ⟨x, hx⟩ : ∃ x : UInt8, s[0]'h0 = x := ⟨_, rfl⟩
          have hdr := Lx.drop_at s 0 h0
          rw [hx, List.drop_zero] at hdr
          have HF : Hid (r = Lx.isLet x) := Lib.hid (by rw [HR2.out, d2, e2, hdr]; rfl)
          have CL := Lib.hid (fun v => Lx.let_any x v)
          clear hdr HR2
          generalize Lx.isLet x = bl at *
          go_wp2_with fail
          refine (CL.out _).mono ?_
          rintro e w1 ⟨rfl, rfl⟩
          go_wp2_with fail
          go_ret
          exact ⟨by rw [HF.out]; rfl, rfl⟩
        · have e1 : decide ((s.size : Int) ≤ 24) = false := decide_eq_false (by omega)
          have e2 : decide (s.size ≤ 24) = false := decide_eq_false h24
          have HF : Hid (r = false) := Lib.hid (by rw [HR2.out, e2]; simp)
          clear HR2
          go_wp2_with fail
          go_ret
          exact ⟨by rw [HF.out]; rfl, rfl⟩
      · have d1 : decide ((0 : Int) < (s.size : Int)) = false := decide_eq_false (by omega)
        have d2 : decide (0 < s.size) = false := decide_eq_false h0
        have HF : Hid (r = false) := Lib.hid (by rw [HR2.out, d2]; rfl)
        clear HR2
        go_wp2_with fail
        go_ret
        exact ⟨by rw [HF.out]; rfl, rfl⟩

/-- Decimal digits. -/
def Lx.dec (n : Nat) : List UInt8 := if h : n < 10 then [UInt8.ofNat (48 + n)] else Lx.dec (n / 10) ++ [UInt8.ofNat (48 + n % 10)]
  termination_by n
  decreasing_by omega
theorem Lx.dec_lt {n : Nat} (h : n < 10) : Lx.dec n = [UInt8.ofNat (48 + n)] := by unfold Lx.dec; rw [dif_pos h]
theorem Lx.dec_ge {n : Nat} (h : ¬ n < 10) : Lx.dec n = Lx.dec (n / 10) ++ Lx.dec (n % 10) := by
  rw [Lx.dec_lt (n := n % 10) (by omega)]
  conv => lhs; unfold Lx.dec
  rw [dif_neg h]
theorem Lx.ofNat_dig {n : Nat} (h : n < 10) : (UInt8.ofNat (48 + n)).toNat = 48 + n := by
  rw [UInt8.toNat_ofNat']
  omega
theorem Lx.dec_facts (N : Nat) : ∀ n, n ≤ N → (∀ c ∈ Lx.dec n, Lx.isDig c = true) ∧ Lx.num (Lx.dec n) = n ∧ 0 < (Lx.dec n).length := by
  induction N with
  | zero =>
    intro n h
    obtain rfl : n = 0 := by omega
    rw [Lx.dec_lt (by omega)]
    exact ⟨by decide, by decide, by decide⟩
  | succ N ih =>
    intro n h
    by_cases hn : n < 10
    · rw [Lx.dec_lt hn]
      have := Lx.ofNat_dig hn
      refine ⟨?_, ?_, by simp⟩
      · intro c hc
        simp at hc
        subst hc
        simp [Lx.isDig]
        omega
      · unfold Lx.num
        simp only [List.foldl_cons, List.foldl_nil]
        omega
    · have hi := ih (n / 10) (by omega)
      have hm := Lx.ofNat_dig (n := n % 10) (by omega)
      rw [Lx.dec_ge hn, Lx.dec_lt (n := n % 10) (by omega)]
      refine ⟨?_, ?_, by simp⟩
      · intro c hc
        rcases List.mem_append.1 hc with hc | hc
        · exact hi.1 c hc
        · simp at hc
          subst hc
          simp [Lx.isDig]
          omega
      · have e : Lx.num (Lx.dec (n / 10) ++ [UInt8.ofNat (48 + n % 10)]) = Lx.num (Lx.dec (n / 10)) * 10 + ((UInt8.ofNat (48 + n % 10)).toNat - 48) := by
          unfold Lx.num
          rw [List.foldl_append]
          rfl
        rw [e, hi.2.1, hm]
        omega
theorem Lx.dec_len (m : Nat) : ∀ n, n < 10 ^ (m + 1) → (Lx.dec n).length ≤ m + 1 := by
  induction m with
  | zero =>
    intro n h
    rw [Lx.dec_lt (by simpa using h)]
    simp
  | succ m ih =>
    intro n h
    by_cases hn : n < 10
    · rw [Lx.dec_lt hn]
      simp
    · rw [Lx.dec_ge hn, Lx.dec_lt (n := n % 10) (by omega), List.length_append]
      have := ih (n / 10) (by rw [Nat.pow_succ] at h; omega)
      simp
      omega
theorem Lx.digit_str : ∀ n : Nat, n < 10 → (⟨#[48, 49, 50, 51, 52, 53, 54, 55, 56, 57]⟩ : ByteArray).extract n (n + 1) = ⟨([UInt8.ofNat (48 + n)] : List UInt8).toArray⟩ := by decide
theorem Lx.cat_str (a b : List UInt8) : (⟨(a ++ b).toArray⟩ : ByteArray) = ⟨a.toArray⟩ ++ ⟨b.toArray⟩ := by
  apply ByteArray.ext
  simp

theorem Lx.decimal_any (N : Nat) : ∀ (n : Nat) (w : World), n ≤ N → n < 10000000000000 → Calls Tryd.prog 21 #[.int .i64 (n : Int)] w fun e w' => e = .returned (.string ⟨(Lx.dec n).toArray⟩) ∧ w = w' := by
  have hbase : ∀ (n : Nat) (w : World), n < 10 → Calls Tryd.prog 21 #[.int .i64 (n : Int)] w fun e w' => e = .returned (.string ⟨(Lx.dec n).toArray⟩) ∧ w = w' := by
    intro n w h
    rw [Lx.dec_lt h]
    have hs := Lx.digit_str n h
    have d1 : decide ((n : Int) < 10) = true := decide_eq_true (by omega)
    have d2 : (n : Int) < 10 := by omega
    have h5 : IntKind.i64.wrap ((n : Int) + 1) = ((n + 1 : Nat) : Int) := by rw [IntKind.wrap_i64]; omega
    have i0 : (0 : Int) ≤ (n : Int) := by omega
    have i1 : (n : Int) ≤ ((n + 1 : Nat) : Int) := by omega
    have i2 : ((n + 1 : Nat) : Int) ≤ 10 := by omega
    have HS := Lib.hid hs
    clear hs
    generalize n + 1 = n1 at *
    go_enter Tryd.func21, Tryd.ntmps21
    go_wp2_with fail
    go_ret
    exact ⟨by rw [← HS.out]; rfl, rfl⟩
  induction N with
  | zero => exact fun n w h _ => hbase n w (by omega)
  | succ N ih =>
    intro n w h hn
    by_cases h10 : n < 10
    · exact hbase n w h10
    · have C1 := Lib.hid (fun v => ih (n / 10) v (by omega) (by omega))
      have C2 := Lib.hid (fun v => hbase (n % 10) v (by omega))
      have hl1 : (Lx.dec (n / 10)).length ≤ 13 := Lx.dec_len 12 _ (by omega)
      have hl2 : (Lx.dec (n % 10)).length ≤ 13 := Lx.dec_len 12 _ (by omega)
      rw [Lx.dec_ge h10, Lx.cat_str]
      have s1 := Lx.bsize (Lx.dec (n / 10))
      have s2 := Lx.bsize (Lx.dec (n % 10))
      generalize (⟨(Lx.dec (n / 10)).toArray⟩ : ByteArray) = X at *
      generalize (⟨(Lx.dec (n % 10)).toArray⟩ : ByteArray) = Y at *
      have s3 : X.size ≤ 13 := by omega
      have s4 : Y.size ≤ 13 := by omega
      have d1 : decide ((n : Int) < 10) = false := decide_eq_false (by omega)
      have d2 : ¬ (n : Int) < 10 := by omega
      have q1 : Int.tdiv (n : Int) 10 = ((n / 10 : Nat) : Int) := rfl
      have q2 : Int.tmod (n : Int) 10 = ((n % 10 : Nat) : Int) := rfl
      have q3 : (n : Int) / 10 = ((n / 10 : Nat) : Int) := by omega
      have q4 : (n : Int) % 10 = ((n % 10 : Nat) : Int) := by omega
      have w1 : IntKind.i64.wrap ((n / 10 : Nat) : Int) = ((n / 10 : Nat) : Int) := by rw [IntKind.wrap_i64]; omega
      clear hl1 hl2 s1 s2 ih hbase
      generalize n / 10 = a at *
      generalize n % 10 = b at *
      go_enter Tryd.func21, Tryd.ntmps21
      go_wp2_with fail
      refine (C1.out _).mono ?_
      rintro e w1 ⟨rfl, rfl⟩
      go_wp2_with fail
      refine (C2.out _).mono ?_
      rintro e w1 ⟨rfl, rfl⟩
      go_wp2_with fail
      go_ret
      exact ⟨rfl, rfl⟩
end Go.Proofs.YtkbnaendlcjjbaaDoor
