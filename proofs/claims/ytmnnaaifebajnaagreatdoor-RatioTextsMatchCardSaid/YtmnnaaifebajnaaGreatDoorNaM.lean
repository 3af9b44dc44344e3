/- What the program exports, at every text. -/
import Derived.Test.YtmnnaaifebajnaaGreatDoorNaL
set_option linter.unusedSimpArgs false
set_option linter.unusedVariables false
namespace Go.Proofs.YtmnnaaifebajnaaGreatDoor
open Go.RowKit
set_option maxRecDepth 100000

def nv (s : ByteArray) : Nat := Na.val s.data.toList
def nil' : ByteArray := ⟨#[]⟩
def opF (f : Nat → Nat → Nat) (s t : ByteArray) : ByteArray × Int := if isB s && isB t then (sN (f (nv s) (nv t)), eN (f (nv s) (nv t))) else (nil', 1)
def subF (s t : ByteArray) : ByteArray × Int := if isB s && isB t then (if nv s < nv t then (nil', 10) else (tx (nv s - nv t), 0)) else (nil', 1)
def cmpF (s t : ByteArray) : Int × Int := if isB s && isB t then (cmpN (nv s) (nv t), 0) else (0, 1)
def divF (s t : ByteArray) : ByteArray × ByteArray × Int := if isB s && isB t then (if nv t = 0 then (nil', nil', 15) else (tx (nv s / nv t), tx (nv s % nv t), 0)) else (nil', nil', 1)
def intF (s : ByteArray) : Int × Int := if isB s then (if nv s < 9223372036854775808 then ((nv s : Int), 0) else (0, 10)) else (0, 1)

theorem nv_tx (m : Nat) : nv (tx m) = m := by
  unfold nv tx
  simp [Na.val_dec]

theorem isB_lt {s : ByteArray} (h : isB s = true) : nv s < LIM ∧ tx (nv s) = s := by
  obtain ⟨m, hm, rfl⟩ := isB_tx h
  rw [nv_tx]
  exact ⟨hm, rfl⟩

theorem cmpN_lt (m n : Nat) : cmpN m n < 0 ↔ m < n := by
  unfold cmpN
  split
  · simp_all
  · split <;> simp_all

theorem compare_tx (m n : Nat) (w : World) (hm : m < LIM) (hn : n < LIM) :
    Calls Tryz.prog 67 #[.string (tx m), .string (tx n)] w fun e w' => e = .returned (.tuple #[.int .i64 (cmpN m n), .int .i64 0]) ∧ Below w.heap.size w w' := by
  have NN := Lib.hid (numbers_ok m n w hm hn)
  have l1 := lim50 hm
  have l2 := lim50 hn
  have CC := Lib.hid (fun A A' c c' W (h1 : Ints W W.heap.size A (Na.lim m)) (h2 : Ints W W.heap.size A' (Na.lim n)) => compare_any A A' m n c c' W h1 h2 (by omega) (by omega))
  go_enter Tryz.func67, Tryz.ntmps67
  go_wp2_with fail
  refine NN.out.mono ?_
  rintro e w1 ⟨A, c, A', c', rfl, h1, h2, h3, h4, h5, h6, hb1⟩
  have C1 := Lib.hid (CC.out A A' c c' w1 h1 h4)
  clear h1 h4
  go_wp2_with fail
  refine C1.out.mono ?_
  rintro e w2 ⟨rfl, q, rfl⟩
  go_wp2_with fail
  go_ret2
  exact ⟨rfl, Nb hb1 (drewN_below w1 q)⟩

theorem compare_bad (s t : ByteArray) (w : World) (hs : s.size ≤ maxLen) (ht : t.size ≤ maxLen) (h : (isB s && isB t) = false) :
    Calls Tryz.prog 67 #[.string s, .string t] w fun e w' => e = .returned (.tuple #[.int .i64 0, .int .i64 1]) ∧ Below w.heap.size w w' := by
  have NN := Lib.hid (numbers_bad s t w hs ht h)
  go_enter Tryz.func67, Tryz.ntmps67
  go_wp2_with fail
  refine NN.out.mono ?_
  rintro e w1 ⟨rfl, hb1⟩
  go_wp2_with fail
  go_ret2
  exact ⟨rfl, hb1⟩

theorem compareF (s t : ByteArray) (w : World) (hs : s.size ≤ maxLen) (ht : t.size ≤ maxLen) :
    Calls Tryz.prog 67 #[.string s, .string t] w fun e w' => e = .returned (.tuple #[.int .i64 (cmpF s t).1, .int .i64 (cmpF s t).2]) ∧ Below w.heap.size w w' := by
  unfold cmpF
  cases h : isB s && isB t
  · exact compare_bad s t w hs ht h
  · rw [Bool.and_eq_true] at h
    obtain ⟨h1, h2⟩ := isB_lt h.1
    obtain ⟨h3, h4⟩ := isB_lt h.2
    have := compare_tx (nv s) (nv t) w h1 h3
    rw [h2, h4] at this
    exact this

theorem div_tx (m n : Nat) (w : World) (hm : m < LIM) (hn : n < LIM) (hn0 : n ≠ 0) (hp : Pow w.heap.size w) :
    Calls Tryz.prog 56 #[.string (tx m), .string (tx n)] w fun e w' => e = .returned (.tuple #[.string (tx (m / n)), .string (tx (m % n)), .int .i64 0]) ∧ Below w.heap.size w w' := by
  have NN := Lib.hid (numbers_ok m n w hm hn)
  have l1 := lim50 hm
  have l2 := lim50 hn
  have DD := Lib.hid (fun A c A' c' W (h1 : Ints W W.heap.size A (Na.lim m)) (h2 : (Na.lim m).length ≤ c) (h3 : c ≤ maxLen) (h4 : Ints W W.heap.size A' (Na.lim n)) (h5 : (Na.lim n).length ≤ c') (h6 : c' ≤ maxLen) => divided_any A A' m n c c' W h1 h4 (by omega) (by omega) h2 h3 h5 h6 (by omega))
  have ZZ := Lib.hid (fun A c W => isZero_any A (Na.lim n).length c W)
  rw [isZero_lim, decide_eq_false hn0] at ZZ
  have lq : (Na.lim (m / n)).length ≤ 50 := lim50 (Nat.lt_of_le_of_lt (Nat.div_le_self _ _) hm)
  have lr : (Na.lim (m % n)).length ≤ 50 := lim50 (Nat.lt_of_le_of_lt (Nat.mod_le _ _) hm)
  have TQ := Lib.hid (fun A c W (hs : Ints W W.heap.size A (Na.lim (m / n))) hp => text_any A (m / n) c W hs (by omega) hp)
  have TR := Lib.hid (fun A c W (hs : Ints W W.heap.size A (Na.lim (m % n))) hp => text_any A (m % n) c W hs (by omega) hp)
  have HPW := Lib.hid (fun (v : World) (hb : Below w.heap.size w v) => hp.bt hb)
  clear hp
  go_enter Tryz.func56, Tryz.ntmps56
  go_wp2_with fail
  refine NN.out.mono ?_
  rintro e w1 ⟨A, c, A', c', rfl, h1, h2, h3, h4, h5, h6, hb1⟩
  have D1 := Lib.hid (DD.out A c A' c' w1 h1 h2 h3 h4 h5 h6)
  clear h1 h4
  go_wp2_with fail
  refine (ZZ.out A' c' w1).mono ?_
  rintro e w1' ⟨rfl, rfl⟩
  go_wp2_with fail
  refine D1.out.mono ?_
  rintro e w2 ⟨Aq, cq, Ar, cr, rfl, hq, _, _, hr, _, _, hb2⟩
  have hb12 := Nb hb1 hb2
  have T1 := Lib.hid (TQ.out Aq cq w2 hq (HPW.out w2 hb12))
  have T2 := Lib.hid (fun v (hb : Below w2.heap.size w2 v) => TR.out Ar cr v (hr.bt hb) (HPW.out v (Nb hb12 hb)))
  clear hq hr
  go_wp2_with fail
  refine T1.out.mono ?_
  rintro e w3 ⟨rfl, hb3⟩
  go_wp2_with fail
  refine (T2.out w3 hb3).mono ?_
  rintro e w4 ⟨rfl, hb4⟩
  go_wp2_with fail
  go_ret3
  exact ⟨rfl, Nb (Nb hb12 hb3) hb4⟩

theorem div_zero (m : Nat) (w : World) (hm : m < LIM) :
    Calls Tryz.prog 56 #[.string (tx m), .string (tx 0)] w fun e w' => e = .returned (.tuple #[.string nil', .string nil', .int .i64 15]) ∧ Below w.heap.size w w' := by
  have NN := Lib.hid (numbers_ok m 0 w hm (by unfold LIM; exact Nat.pos_of_ne_zero (by simp)))
  have ZZ := Lib.hid (fun A c W => isZero_any A (Na.lim 0).length c W)
  rw [isZero_lim] at ZZ
  simp only [decide_true] at ZZ
  go_enter Tryz.func56, Tryz.ntmps56
  go_wp2_with fail
  refine NN.out.mono ?_
  rintro e w1 ⟨A, c, A', c', rfl, h1, h2, h3, h4, h5, h6, hb1⟩
  clear h1 h4
  go_wp2_with fail
  refine (ZZ.out A' c' w1).mono ?_
  rintro e w1' ⟨rfl, rfl⟩
  go_wp2_with fail
  go_ret3
  exact ⟨rfl, hb1⟩

theorem div_bad (s t : ByteArray) (w : World) (hs : s.size ≤ maxLen) (ht : t.size ≤ maxLen) (h : (isB s && isB t) = false) :
    Calls Tryz.prog 56 #[.string s, .string t] w fun e w' => e = .returned (.tuple #[.string nil', .string nil', .int .i64 1]) ∧ Below w.heap.size w w' := by
  have NN := Lib.hid (numbers_bad s t w hs ht h)
  go_enter Tryz.func56, Tryz.ntmps56
  go_wp2_with fail
  refine NN.out.mono ?_
  rintro e w1 ⟨rfl, hb1⟩
  go_wp2_with fail
  go_ret3
  exact ⟨rfl, hb1⟩

theorem divideF (s t : ByteArray) (w : World) (hs : s.size ≤ maxLen) (ht : t.size ≤ maxLen) (hp : Pow w.heap.size w) :
    Calls Tryz.prog 56 #[.string s, .string t] w fun e w' => e = .returned (.tuple #[.string (divF s t).1, .string (divF s t).2.1, .int .i64 (divF s t).2.2]) ∧ Below w.heap.size w w' := by
  unfold divF
  cases h : isB s && isB t
  · exact div_bad s t w hs ht h
  · rw [Bool.and_eq_true] at h
    obtain ⟨h1, h2⟩ := isB_lt h.1
    obtain ⟨h3, h4⟩ := isB_lt h.2
    by_cases h0 : nv t = 0
    · have := div_zero (nv s) w h1
      rw [← h0, h2, h4] at this
      rw [if_pos rfl, if_pos h0]
      exact this
    · have := div_tx (nv s) (nv t) w h1 h3 h0 hp
      rw [h2, h4] at this
      rw [if_pos rfl, if_neg h0]
      exact this

theorem integerF (s : ByteArray) (w : World) (hs : s.size ≤ maxLen) (hp : Pow w.heap.size w) :
    Calls Tryz.prog 57 #[.string s] w fun e w' => e = .returned (.tuple #[.int .i64 (intF s).1, .int .i64 (intF s).2]) ∧ Below w.heap.size w w' := by
  unfold intF
  cases h : isB s
  · exact int_bad s w hs h
  · obtain ⟨h1, h2⟩ := isB_lt h
    by_cases h0 : nv s < 9223372036854775808
    · have := int_ok (nv s) w h1 h0
      rw [h2] at this
      rw [if_pos rfl, if_pos h0]
      exact this
    · have := int_range (nv s) w h1 h0 hp
      rw [h2] at this
      rw [if_pos rfl, if_neg h0]
      exact this

theorem operate_add_bad (s t : ByteArray) (w : World) (hs : s.size ≤ maxLen) (ht : t.size ≤ maxLen) (h : (isB s && isB t) = false) :
    Calls Tryz.prog 77 #[.string s, .string t, .func (.func 95) #[] #[]] w fun e w' => e = .returned (.tuple #[.string nil', .int .i64 1]) ∧ Below w.heap.size w w' := by
  have NN := Lib.hid (numbers_bad s t w hs ht h)
  go_enter Tryz.func77, Tryz.ntmps77
  go_wp2_with fail
  refine NN.out.mono ?_
  rintro e w1 ⟨rfl, hb1⟩
  go_wp2_with fail
  go_ret2
  exact ⟨rfl, hb1⟩

theorem addF (s t : ByteArray) (w : World) (hs : s.size ≤ maxLen) (ht : t.size ≤ maxLen) (hp : Pow w.heap.size w) :
    Calls Tryz.prog 68 #[.string s, .string t] w fun e w' => e = .returned (.tuple #[.string (opF (fun m n => m + n) s t).1, .int .i64 (opF (fun m n => m + n) s t).2]) ∧ Below w.heap.size w w' := by
  have OP : Hid (Calls Tryz.prog 77 #[.string s, .string t, .func (.func 95) #[] #[]] w fun e w' => e = .returned (.tuple #[.string (opF (fun m n => m + n) s t).1, .int .i64 (opF (fun m n => m + n) s t).2]) ∧ Below w.heap.size w w') := by
    refine Lib.hid ?_
    unfold opF
    cases h : isB s && isB t
    · exact operate_add_bad s t w hs ht h
    · rw [Bool.and_eq_true] at h
      obtain ⟨h1, h2⟩ := isB_lt h.1
      obtain ⟨h3, h4⟩ := isB_lt h.2
      have := operate_add (nv s) (nv t) w h1 h3 hp
      rw [h2, h4] at this
      simp only [if_true]
      exact this
  generalize (opF (fun m n => m + n) s t).1 = x at *
  generalize (opF (fun m n => m + n) s t).2 = y at *
  go_enter Tryz.func68, Tryz.ntmps68
  go_wp2_with fail
  refine OP.out.mono ?_
  rintro e w1 ⟨rfl, hb1⟩
  go_wp2_with fail
  go_ret2
  exact ⟨rfl, hb1⟩

theorem operate_mul_bad (s t : ByteArray) (w : World) (hs : s.size ≤ maxLen) (ht : t.size ≤ maxLen) (h : (isB s && isB t) = false) :
    Calls Tryz.prog 77 #[.string s, .string t, .func (.func 93) #[] #[]] w fun e w' => e = .returned (.tuple #[.string nil', .int .i64 1]) ∧ Below w.heap.size w w' := by
  have NN := Lib.hid (numbers_bad s t w hs ht h)
  go_enter Tryz.func77, Tryz.ntmps77
  go_wp2_with fail
  refine NN.out.mono ?_
  rintro e w1 ⟨rfl, hb1⟩
  go_wp2_with fail
  go_ret2
  exact ⟨rfl, hb1⟩

theorem mulF (s t : ByteArray) (w : World) (hs : s.size ≤ maxLen) (ht : t.size ≤ maxLen) (hp : Pow w.heap.size w) :
    Calls Tryz.prog 66 #[.string s, .string t] w fun e w' => e = .returned (.tuple #[.string (opF (fun m n => m * n) s t).1, .int .i64 (opF (fun m n => m * n) s t).2]) ∧ Below w.heap.size w w' := by
  have OP : Hid (Calls Tryz.prog 77 #[.string s, .string t, .func (.func 93) #[] #[]] w fun e w' => e = .returned (.tuple #[.string (opF (fun m n => m * n) s t).1, .int .i64 (opF (fun m n => m * n) s t).2]) ∧ Below w.heap.size w w') := by
    refine Lib.hid ?_
    unfold opF
    cases h : isB s && isB t
    · exact operate_mul_bad s t w hs ht h
    · rw [Bool.and_eq_true] at h
      obtain ⟨h1, h2⟩ := isB_lt h.1
      obtain ⟨h3, h4⟩ := isB_lt h.2
      have := operate_mul (nv s) (nv t) w h1 h3 hp
      rw [h2, h4] at this
      simp only [if_true]
      exact this
  generalize (opF (fun m n => m * n) s t).1 = x at *
  generalize (opF (fun m n => m * n) s t).2 = y at *
  go_enter Tryz.func66, Tryz.ntmps66
  go_wp2_with fail
  refine OP.out.mono ?_
  rintro e w1 ⟨rfl, hb1⟩
  go_wp2_with fail
  go_ret2
  exact ⟨rfl, hb1⟩

theorem operate_gcd_bad (s t : ByteArray) (w : World) (hs : s.size ≤ maxLen) (ht : t.size ≤ maxLen) (h : (isB s && isB t) = false) :
    Calls Tryz.prog 77 #[.string s, .string t, .func (.func 86) #[] #[]] w fun e w' => e = .returned (.tuple #[.string nil', .int .i64 1]) ∧ Below w.heap.size w w' := by
  have NN := Lib.hid (numbers_bad s t w hs ht h)
  go_enter Tryz.func77, Tryz.ntmps77
  go_wp2_with fail
  refine NN.out.mono ?_
  rintro e w1 ⟨rfl, hb1⟩
  go_wp2_with fail
  go_ret2
  exact ⟨rfl, hb1⟩

theorem gcdF (s t : ByteArray) (w : World) (hs : s.size ≤ maxLen) (ht : t.size ≤ maxLen) (hp : Pow w.heap.size w) :
    Calls Tryz.prog 60 #[.string s, .string t] w fun e w' => e = .returned (.tuple #[.string (opF Nat.gcd s t).1, .int .i64 (opF Nat.gcd s t).2]) ∧ Below w.heap.size w w' := by
  have OP : Hid (Calls Tryz.prog 77 #[.string s, .string t, .func (.func 86) #[] #[]] w fun e w' => e = .returned (.tuple #[.string (opF Nat.gcd s t).1, .int .i64 (opF Nat.gcd s t).2]) ∧ Below w.heap.size w w') := by
    refine Lib.hid ?_
    unfold opF
    cases h : isB s && isB t
    · exact operate_gcd_bad s t w hs ht h
    · rw [Bool.and_eq_true] at h
      obtain ⟨h1, h2⟩ := isB_lt h.1
      obtain ⟨h3, h4⟩ := isB_lt h.2
      have := operate_gcd (nv s) (nv t) w h1 h3 hp
      rw [h2, h4] at this
      simp only [if_true]
      exact this
  generalize (opF Nat.gcd s t).1 = x at *
  generalize (opF Nat.gcd s t).2 = y at *
  go_enter Tryz.func60, Tryz.ntmps60
  go_wp2_with fail
  refine OP.out.mono ?_
  rintro e w1 ⟨rfl, hb1⟩
  go_wp2_with fail
  go_ret2
  exact ⟨rfl, hb1⟩

theorem subtractF (s t : ByteArray) (w : World) (hs : s.size ≤ maxLen) (ht : t.size ≤ maxLen) (hp : Pow w.heap.size w) :
    Calls Tryz.prog 55 #[.string s, .string t] w fun e w' => e = .returned (.tuple #[.string (subF s t).1, .int .i64 (subF s t).2]) ∧ Below w.heap.size w w' := by
  have CM := Lib.hid (compareF s t w hs ht)
  have HPW := Lib.hid (fun (v : World) (hb : Below w.heap.size w v) => hp.bt hb)
  unfold subF
  unfold cmpF at CM
  cases h : isB s && isB t
  · rw [h] at CM
    simp only [Bool.false_eq_true, if_false] at CM ⊢
    go_enter Tryz.func55, Tryz.ntmps55
    go_wp2_with fail
    refine CM.out.mono ?_
    rintro e w1 ⟨rfl, hb1⟩
    go_wp2_with fail
    go_ret2
    exact ⟨rfl, hb1⟩
  · rw [h] at CM
    rw [Bool.and_eq_true] at h
    obtain ⟨h1, h2⟩ := isB_lt h.1
    obtain ⟨h3, h4⟩ := isB_lt h.2
    simp only [if_true] at CM ⊢
    by_cases hlt : nv s < nv t
    · have hc := (cmpN_lt _ _).2 hlt
      rw [if_pos hlt]
      clear hlt
      generalize cmpN (nv s) (nv t) = cc at *
      clear h1 h2 h3 h4
      go_enter Tryz.func55, Tryz.ntmps55
      go_wp2_with fail
      refine CM.out.mono ?_
      rintro e w1 ⟨rfl, hb1⟩
      go_wp2_with fail
      go_ret2
      exact ⟨rfl, hb1⟩
    · have hc := mt (cmpN_lt _ _).1 hlt
      rw [if_neg hlt]
      have OP : Hid (∀ v, Below w.heap.size w v → Calls Tryz.prog 77 #[.string s, .string t, .func (.func 78) #[] #[]] v fun e w' => e = .returned (.tuple #[.string (tx (nv s - nv t)), .int .i64 0]) ∧ Below v.heap.size v w') := by
        refine Lib.hid fun v hb => ?_
        have := operate_sub (nv s) (nv t) v h1 h3 (HPW.out v hb) (by omega)
        have hl : nv s - nv t < LIM := by omega
        rw [h2, h4, show sN (nv s - nv t) = tx (nv s - nv t) from if_pos hl, show eN (nv s - nv t) = 0 from if_pos hl] at this
        exact this
      clear hlt
      generalize cmpN (nv s) (nv t) = cc at *
      generalize tx (nv s - nv t) = r at *
      clear h1 h2 h3 h4
      go_enter Tryz.func55, Tryz.ntmps55
      go_wp2_with fail
      refine CM.out.mono ?_
      rintro e w1 ⟨rfl, hb1⟩
      go_wp2_with fail
      refine (OP.out w1 hb1).mono ?_
      rintro e w2 ⟨rfl, hb2⟩
      go_wp2_with fail
      go_ret2
      exact ⟨rfl, Nb hb1 hb2⟩
end Go.Proofs.YtmnnaaifebajnaaGreatDoor
