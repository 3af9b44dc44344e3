/- Layer 8: Text and Parse. -/
import Derived.Test.YtkbncdcphohmiaaGreatDoorMoV
import Derived.Test.YtkbncdcphohmiaaGreatDoorMoText
import Derived.Lib.ItoaNum
set_option linter.unusedSimpArgs false
set_option linter.unusedVariables false
namespace Go.Proofs.YtkbncdcphohmiaaGreatDoor
open Go.RowKit
set_option maxRecDepth 100000

/-! ### numbers of texts -/
theorem Mo.fold_ge : ∀ (l : List UInt8) (a : Nat), a ≤ l.foldl (fun n c => n * 10 + Na.dv c) a
  | [], a => Nat.le_refl a
  | c :: l, a => by
    have := Mo.fold_ge l (a * 10 + Na.dv c)
    rw [List.foldl_cons]
    omega
theorem Mo.parse_ok : ∀ (l : List UInt8) (acc : Nat), l.all Na.isD = true → l.foldl (fun n c => n * 10 + Na.dv c) acc < 10000000000000 → Lib.parseUint10 acc l = .ok (l.foldl (fun n c => n * 10 + Na.dv c) acc)
  | [], acc, _, _ => rfl
  | c :: r, acc, hl, hb => by
    simp only [List.all_cons, Bool.and_eq_true] at hl
    have hc := (Na.isD_iff _).1 hl.1
    rw [List.foldl_cons] at hb ⊢
    have hg := Mo.fold_ge r (acc * 10 + Na.dv c)
    have hdv : c.toNat - 48 = Na.dv c := rfl
    rw [Lib.parseUint10, if_pos hc, hdv, if_neg (by omega), if_neg (by omega)]
    exact Mo.parse_ok r _ hl.2 hb
theorem Mo.mag (n : Nat) (h : n < 10000000000000) : Lib.parseMag (Lib.decDigits n) = .ok n := by
  have hne := Na.dec_ne n
  have hp := Mo.parse_ok (Lib.decDigits n) 0 (Na.dec_all n) (by
    have : (Lib.decDigits n).foldl (fun n c => n * 10 + Na.dv c) 0 = Na.val (Lib.decDigits n) := rfl
    rw [this, Na.val_dec]
    exact h)
  have hv : (Lib.decDigits n).foldl (fun n c => n * 10 + Na.dv c) 0 = n := Na.val_dec n
  rw [hv] at hp
  unfold Lib.parseMag
  rw [if_neg (by simpa using hne)]
  exact hp
theorem Mo.atoi_itoa (u : Int) (h1 : -1000000000000 ≤ u) (h2 : u ≤ 1000000000000) : Lib.atoiAll (Lib.itoa u) = .ok u := by
  unfold Lib.itoa
  split
  · rename_i hn
    have hm := Mo.mag u.natAbs (by omega)
    unfold Lib.atoiAll
    have e1 : (if (45 : UInt8).toNat = 43 ∨ (45 : UInt8).toNat = 45 then Lib.decDigits u.natAbs else 45 :: Lib.decDigits u.natAbs) = Lib.decDigits u.natAbs := if_pos (.inr rfl)
    simp only [e1, hm]
    have e2 : ((45 : UInt8).toNat = 45) := rfl
    rw [if_neg (by omega), if_neg (by omega), if_pos e2]
    congr 1
    omega
  · rename_i hn
    have hm := Mo.mag u.toNat (by omega)
    have ha := Na.dec_all u.toNat
    cases hd : Lib.decDigits u.toNat with
    | nil => exact absurd hd (Na.dec_ne _)
    | cons c r =>
      rw [hd] at hm ha
      have hc := (Na.isD_iff c).1 (List.all_eq_true.1 ha c (by simp))
      unfold Lib.atoiAll
      have n1 : ¬ (c.toNat = 43 ∨ c.toNat = 45) := by omega
      have n2 : ¬ c.toNat = 45 := by omega
      simp only [if_neg n1, hm]
      rw [if_neg (by omega), if_neg (by omega), if_neg n2]
      congr 1
      omega
def Mo.atoiV (l : List UInt8) : Int := match Lib.atoiAll l with | .ok v => v | .«syntax» => 0 | .range => Lib.atoiSat l

/-! ### the first space -/
def Mo.cutAt (c : UInt8) : List UInt8 → List UInt8 × List UInt8 × Bool
  | [] => ([], [], false)
  | x :: l => if x = c then ([], l, true) else (x :: (Mo.cutAt c l).1, (Mo.cutAt c l).2.1, (Mo.cutAt c l).2.2)
theorem Mo.cutAt_index (c : UInt8) : ∀ l : List UInt8, (Lib.index l [c] = -1 ∧ Mo.cutAt c l = (l, [], false)) ∨ ∃ i : Nat, Lib.index l [c] = (i : Int) ∧ Mo.cutAt c l = (l.take i, l.drop (i + 1), true)
  | [] => .inl ⟨rfl, rfl⟩
  | x :: l => by
    unfold Lib.index Mo.cutAt
    by_cases hc : x = c
    · subst hc
      rw [if_pos (by simp [List.isPrefixOf]), if_pos rfl]
      exact .inr ⟨0, rfl, rfl⟩
    · have h1 : ([c] : List UInt8).isPrefixOf (x :: l) = false := by
        simp [List.isPrefixOf, Ne.symm hc]
      rw [h1, if_neg hc]
      rcases Mo.cutAt_index c l with ⟨h2, h3⟩ | ⟨i, h2, h3⟩
      · left
        rw [h2, h3]
        exact ⟨rfl, rfl⟩
      · right
        refine ⟨i + 1, ?_, ?_⟩
        · rw [h2]
          have : ((i : Int) == -1) = false := by simp
          rw [this]
          simp
        · rw [h3]
          rfl
theorem Mo.cut_at (c : UInt8) (l : List UInt8) : Lib.cut l [c] = Mo.cutAt c l := by
  unfold Lib.cut
  rcases Mo.cutAt_index c l with ⟨h2, h3⟩ | ⟨i, h2, h3⟩
  · rw [h2, h3]
    rfl
  · rw [h2, h3, if_pos (by omega)]
    rfl
theorem Mo.cutAt_len (c : UInt8) : ∀ l : List UInt8, (Mo.cutAt c l).1.length ≤ l.length ∧ (Mo.cutAt c l).2.1.length ≤ l.length
  | [] => ⟨Nat.le_refl _, Nat.le_refl _⟩
  | x :: l => by
    have := Mo.cutAt_len c l
    unfold Mo.cutAt
    split
    · exact ⟨Nat.zero_le _, by simp⟩
    · simp only [List.length_cons]
      omega
theorem Mo.cutAt_app (c : UInt8) : ∀ (a r : List UInt8), (∀ x ∈ a, x ≠ c) → Mo.cutAt c (a ++ c :: r) = (a, r, true)
  | [], r, _ => by simp [Mo.cutAt]
  | x :: a, r, h => by
    have ih := Mo.cutAt_app c a r (fun y hy => h y (List.mem_cons_of_mem _ hy))
    rw [List.cons_append, Mo.cutAt, if_neg (h x (List.mem_cons_self ..)), ih]

theorem Mo.itoa_any (u : Int) (w : World) (h0 : -9223372036854775808 ≤ u) (h1 : u ≤ 9223372036854775807) (hP : Mo.Pa w.heap.size w) :
    Calls Tryz.prog 44 #[.int .i64 u] w fun e w' => e = .returned (.string ⟨(Lib.itoa u).toArray⟩) ∧ Below w.heap.size w w' := by
  refine (Tryz.strconv_Itoa u h0 h1 w hP.pm.1.1.1).mono ?_
  rintro e w' ⟨rfl, k, os, rfl⟩
  exact ⟨rfl, Lib.below_grow _ _ (Nat.le_refl _) _ _⟩
theorem Mo.cut_any (c : UInt8) (s : ByteArray) (w : World) (hs : s.size ≤ 2000000) (hP : Mo.Pa w.heap.size w) :
    Calls Tryz.prog 46 #[.string s, .string ⟨#[c]⟩] w fun e w' => e = .returned (.tuple #[.string ⟨(Mo.cutAt c s.data.toList).1.toArray⟩, .string ⟨(Mo.cutAt c s.data.toList).2.1.toArray⟩, .bool (Mo.cutAt c s.data.toList).2.2]) ∧ Below w.heap.size w w' := by
  obtain ⟨m, h1⟩ := hP.mx.1
  refine (Tryz.strings_Cut s ⟨#[c]⟩ m w (by omega) h1).mono ?_
  rintro e w' ⟨rfl, k, rfl⟩
  rw [← Mo.cut_at]
  exact ⟨rfl, ⟨rfl, rfl, rfl, Nat.le_refl _, fun _ _ => rfl⟩⟩
theorem Mo.atoi_any (s : ByteArray) (w : World) (hs : s.size ≤ 2000000) (hP : Mo.Pa w.heap.size w) :
    Calls Tryz.prog 47 #[.string s] w fun e w' => ∃ ev, e = .returned (.tuple #[.int .i64 (Mo.atoiV s.data.toList), ev]) ∧ Below w.heap.size w w' := by
  unfold Mo.atoiV
  cases h : Lib.atoiAll s.data.toList with
  | ok v =>
    refine (Tryz.strconv_Atoi_ok s (by omega) v h w).mono ?_
    rintro e w' ⟨rfl, hw⟩
    refine ⟨_, rfl, ?_⟩
    rcases hw with rfl | ⟨t, rfl⟩
    · exact Below.refl _ _
    · exact Lib.bytesWorld_below _ _ _
  | «syntax» =>
    obtain ⟨te, pe, hc⟩ := hP.es
    refine (Tryz.strconv_Atoi_syntax s (by omega) h (.iface te pe) w hc (.inr ⟨te, pe, rfl⟩)).mono ?_
    rintro e w' ⟨N, rfl, _, _, hb⟩
    exact ⟨_, rfl, hb⟩
  | range =>
    obtain ⟨te, pe, hc⟩ := hP.pm.1.1.2.2.1
    refine (Tryz.strconv_Atoi_range s (by omega) h (.iface te pe) w hc (.inr ⟨te, pe, rfl⟩)).mono ?_
    rintro e w' ⟨N, rfl, _, _, hb⟩
    exact ⟨_, rfl, hb⟩

def Mo.textV (c : ByteArray) (u : Int) : ByteArray := ⟨(Mo.text c.data.toList u).toArray⟩
def Mo.textF (c : ByteArray) (u : Int) : ByteArray × Int := if Mo.proper c.data.toList u = true then (Mo.textV c u, 0) else (⟨#[]⟩, 1)
theorem Mo.textV_eq (c : ByteArray) (u : Int) : Mo.textV c u = (c ++ ⟨#[32]⟩) ++ ⟨(Lib.itoa u).toArray⟩ := by
  apply ByteArray.ext
  unfold Mo.textV Mo.text
  simp
theorem Mo.proper_parts {c : ByteArray} {u : Int} (h : Mo.proper c.data.toList u = true) : c.size ≤ 24 ∧ -1000000000000 ≤ u ∧ u ≤ 1000000000000 := by
  simp only [Mo.proper, Bool.and_eq_true, decide_eq_true_eq] at h
  have := Mo.ident_size h.1
  rw [Array.length_toList] at this
  exact ⟨this, h.2.1, h.2.2⟩

set_option maxHeartbeats 1000000 in
theorem Mo.text_any (c : ByteArray) (u : Int) (w : World) (hP : Mo.Pa w.heap.size w) (hc : c.size ≤ maxLen) :
    Calls Tryz.prog 15 #[.agg #[.string c, .int .i64 u]] w fun e w' => e = .returned (.tuple #[.string (Mo.textF c u).1, .int .i64 (Mo.textF c u).2]) ∧ Below w.heap.size w w' := by
  have C1 := Lib.hid (fun v => Mo.amount_any c u hc v)
  have hb0 := Mo.al w (.cells #[.string c, .int .i64 u] 24)
  have K0 := Bk.new w 24 #[.string c, .int .i64 u]
  unfold Mo.textF
  cases hp : Mo.proper c.data.toList u with
  | false =>
    rw [hp] at C1
    rw [if_neg (by simp)]
    clear hp hc
    go_enter Tryz.func15, Tryz.ntmps15
    go_wp2_with fail
    refine (C1.out _).mono ?_
    rintro e w1 ⟨rfl, g⟩
    have hb1 := Mo.Nb hb0 g
    clear g hb0 K0
    go_wp2
    go_ret2
    exact ⟨rfl, hb1⟩
  | true =>
    rw [hp] at C1
    rw [if_pos rfl, Mo.textV_eq]
    obtain ⟨z1, z2, z3⟩ := Mo.proper_parts hp
    have CI : Hid (∀ v, Below w.heap.size w v → Calls Tryz.prog 44 #[.int .i64 u] v fun e w' => e = .returned (.string ⟨(Lib.itoa u).toArray⟩) ∧ Below v.heap.size v w') := Lib.hid (fun v h => Mo.itoa_any u v (by omega) (by omega) (hP.bt h))
    have hl : (⟨(Lib.itoa u).toArray⟩ : ByteArray).size ≤ 14 := by
      have := (Mo.itoa_len z2 z3).1
      simpa [ByteArray.size] using this
    have e32 : (⟨#[32]⟩ : ByteArray).size = 1 := rfl
    generalize (⟨(Lib.itoa u).toArray⟩ : ByteArray) = d at *
    have n1 : ¬ 9223372036854775807 < c.size + (⟨#[32]⟩ : ByteArray).size := by omega
    have n2 : ¬ 9223372036854775807 < c.size + 1 := by omega
    have n3 : ¬ 9223372036854775807 < c.size + 1 + d.size := by omega
    have n4 : ¬ 9223372036854775807 < c.size + (⟨#[32]⟩ : ByteArray).size + d.size := by omega
    have n5 : ¬ 9223372036854775807 < (c ++ ⟨#[32]⟩ : ByteArray).size + d.size := by rw [ByteArray.size_append]; omega
    clear hp hc z2 z3
    go_enter Tryz.func15, Tryz.ntmps15
    go_wp2_with fail
    refine (C1.out _).mono ?_
    rintro e w1 ⟨rfl, g⟩
    have hb1 := Mo.Nb hb0 g
    have K1 := K0.bt g
    clear g hb0 K0
    have x0 := K1.cell 0 _ rfl
    have x1 := K1.cell 1 _ rfl
    go_wp2_with fail
    have y0 := fun dq os => cell_regrown x0 dq os
    have y1 := fun dq os => cell_regrown x1 dq os
    have LYr := Lib.hid (fun dq os => Calls.regrown_of (CI.out (Go.Sort.grow (redrawn w1 dq) os) (Mo.Nb hb1 (below_regrown w1 dq os))))
    refine wp_region_quiet_below (by kernel_rfl) (by kernel_rfl) ?_
    repeat (quiet_step ((go_at_call 44; exact LYr.out _ _)))
    refine wpQuiet_nil ?_
    intro _ hw'
    obtain ⟨⟨dq, osq⟩, hw''⟩ := hw'
    subst hw''
    have hb3 := Mo.Nb hb1 (below_regrown w1 dq osq)
    clear LYr y0 y1 hb1 x0 x1 K1 C1 CI
    generalize Go.Sort.grow (redrawn w1 dq) osq = v at *
    go_wp2
    go_ret2
    exact ⟨rfl, hb3⟩

/-! ### Parse -/
theorem Mo.bsz (l : List UInt8) : (⟨l.toArray⟩ : ByteArray).size = l.length := by simp [ByteArray.size]
def Mo.parseF (t : ByteArray) : (ByteArray × Int) × Int := match Mo.amt t.data.toList with
  | none => ((⟨#[]⟩, 0), 5)
  | some (c, u) => ((⟨c.toArray⟩, u), 0)
theorem Mo.ba_eq (a b : ByteArray) : a = b ↔ a.data.toList = b.data.toList := ⟨fun e => by rw [e], fun e => ByteArray.ext (Array.toList_inj.1 e)⟩
theorem Mo.parse_yes {t : ByteArray} {c : List UInt8} {u : Int} (hp : Mo.proper c u = true) (ht : t.data.toList = Mo.text c u) : Mo.parseF t = ((⟨c.toArray⟩, u), 0) := by
  unfold Mo.parseF
  rw [ht, Mo.amt_text hp]
/-- What the program compares. -/
theorem Mo.parse_way (t : ByteArray) : ∃ (c d : ByteArray), (⟨(Mo.cutAt 32 t.data.toList).1.toArray⟩ : ByteArray) = c ∧ (⟨(Mo.cutAt 32 t.data.toList).2.1.toArray⟩ : ByteArray) = d ∧ c.size ≤ t.size ∧ d.size ≤ t.size ∧
    (((Mo.textF c (Mo.atoiV d.data.toList)).2 = 0 ∧ (Mo.textF c (Mo.atoiV d.data.toList)).1 = t ∧ Mo.parseF t = ((c, Mo.atoiV d.data.toList), 0)) ∨
     ((Mo.textF c (Mo.atoiV d.data.toList)).2 ≠ 0 ∧ Mo.parseF t = ((⟨#[]⟩, 0), 5)) ∨ ((Mo.textF c (Mo.atoiV d.data.toList)).2 = 0 ∧ (Mo.textF c (Mo.atoiV d.data.toList)).1 ≠ t ∧ Mo.parseF t = ((⟨#[]⟩, 0), 5))) := by
  have hl := Mo.cutAt_len 32 t.data.toList
  rw [Array.length_toList] at hl
  refine ⟨_, _, rfl, rfl, by rw [Mo.bsz]; exact hl.1, by rw [Mo.bsz]; exact hl.2, ?_⟩
  have hno : ∀ c u, Mo.amt t.data.toList = some (c, u) → Mo.cutAt 32 t.data.toList = (c, Lib.itoa u, true) ∧ Mo.atoiV (Lib.itoa u) = u ∧ Mo.proper c u = true ∧ t.data.toList = Mo.text c u := fun c u h => by
    obtain ⟨hp, ht⟩ := Mo.amt_some h
    have hp' := hp
    simp only [Mo.proper, Bool.and_eq_true, decide_eq_true_eq] at hp'
    refine ⟨by rw [ht]; exact Mo.cutAt_app 32 c _ (Mo.ident_no hp'.1), ?_, hp, ht⟩
    unfold Mo.atoiV
    rw [Mo.atoi_itoa u hp'.2.1 hp'.2.2]
  cases ha : Mo.amt t.data.toList with
  | some p =>
    obtain ⟨c, u⟩ := p
    obtain ⟨h1, h2, h3, h4⟩ := hno c u ha
    rw [h1]
    simp only [h2]
    left
    have e1 : Mo.textF ⟨c.toArray⟩ u = (Mo.textV ⟨c.toArray⟩ u, 0) := by
      unfold Mo.textF
      rw [if_pos (by simpa using h3)]
    rw [e1]
    refine ⟨rfl, ?_, Mo.parse_yes h3 h4⟩
    rw [Mo.ba_eq, h4]
    unfold Mo.textV
    simp
  | none =>
    have hpf : Mo.parseF t = ((⟨#[]⟩, 0), 5) := by
      unfold Mo.parseF
      rw [ha]
    right
    generalize (⟨(Mo.cutAt 32 t.data.toList).1.toArray⟩ : ByteArray) = c
    generalize Mo.atoiV _ = u
    unfold Mo.textF
    by_cases hp : Mo.proper c.data.toList u = true
    · rw [if_pos hp]
      refine .inr ⟨rfl, fun e => ?_, hpf⟩
      have : t.data.toList = Mo.text c.data.toList u := by
        rw [← e]
        unfold Mo.textV
        simp
      rw [this, Mo.amt_text hp] at ha
      cases ha
    · rw [if_neg hp]
      exact .inl ⟨by decide, hpf⟩

theorem Mo.info_amt : (Tryz.prog.info? 24).map (·.size) = some 2 := by kernel_rfl
theorem Mo.textF_size {c : ByteArray} {u : Int} : (Mo.textF c u).1.size ≤ 60 := by
  unfold Mo.textF
  split
  · rename_i h
    obtain ⟨z1, z2, z3⟩ := Mo.proper_parts h
    have := (Mo.itoa_len z2 z3).1
    have e1 : (Mo.textV c u).size = c.data.toList.length + ((Lib.itoa u).length + 1) := by
      unfold Mo.textV Mo.text
      rw [Mo.bsz]
      simp
    have e2 : c.data.toList.length = c.size := Array.length_toList
    show (Mo.textV c u).size ≤ 60
    omega
  · decide
set_option maxHeartbeats 4000000 in
theorem Mo.parse_any (t : ByteArray) (w : World) (hP : Mo.Pa w.heap.size w) (ht : t.size ≤ 100) :
    Calls Tryz.prog 17 #[.string t] w fun e w' => e = .returned (.tuple #[.agg #[.string (Mo.parseF t).1.1, .int .i64 (Mo.parseF t).1.2], .int .i64 (Mo.parseF t).2]) ∧ Below w.heap.size w w' := by
  obtain ⟨c, d, hc, hd, hcs, hds, hway⟩ := Mo.parse_way t
  have C1 : Hid (∀ v, Below w.heap.size w v → Calls Tryz.prog 46 #[.string t, .string ⟨#[32]⟩] v fun e w' => e = .returned (.tuple #[.string c, .string d, .bool (Mo.cutAt 32 t.data.toList).2.2]) ∧ Below v.heap.size v w') := Lib.hid (fun v h => by
    have := Mo.cut_any 32 t v (by omega) (hP.bt h)
    rw [hc, hd] at this
    exact this)
  have C2 : Hid (∀ v, Below w.heap.size w v → Calls Tryz.prog 47 #[.string d] v fun e w' => ∃ ev, e = .returned (.tuple #[.int .i64 (Mo.atoiV d.data.toList), ev]) ∧ Below v.heap.size v w') := Lib.hid (fun v h => Mo.atoi_any d v (by omega) (hP.bt h))
  have C3 : Hid (∀ v, Below w.heap.size w v → Calls Tryz.prog 15 #[.agg #[.string c, .int .i64 (Mo.atoiV d.data.toList)]] v fun e w' => e = .returned (.tuple #[.string (Mo.textF c (Mo.atoiV d.data.toList)).1, .int .i64 (Mo.textF c (Mo.atoiV d.data.toList)).2]) ∧ Below v.heap.size v w') := Lib.hid (fun v h => Mo.text_any c _ v (hP.bt h) (by unfold maxLen; omega))
  have HW := Lib.hid hway
  generalize (Mo.cutAt 32 t.data.toList).2.2 = fb at *
  generalize Mo.parseF t = R at *
  generalize Mo.atoiV d.data.toList = u at *
  have hb0 := Mo.al w (.cells #[.string ⟨#[]⟩, .int .i64 0] 24)
  have K0 := Bk.new w 24 #[.string ⟨#[]⟩, .int .i64 0]
  generalize Mo.textF c u = T at *
  obtain ⟨T1, T2⟩ := T
  simp only at C3 HW
  clear hway hP hc hd
  go_enter Tryz.func17, Tryz.ntmps17
  go_wp2_with fail
  refine (C1.out _ hb0).mono ?_
  rintro e w1 ⟨rfl, g⟩
  have hb1 := Mo.Nb hb0 g
  have K1 := K0.bt g
  clear g hb0 K0 C1
  go_wp2_with fail
  refine (C2.out _ hb1).mono ?_
  rintro e w2 ⟨ev, rfl, g⟩
  have hb2 := Mo.Nb hb1 g
  have K2 := K1.bt g
  clear g hb1 K1 C2
  have hb3 := Mo.Nb hb2 (al w2 (.cells #[.string c, .int .i64 u] 24))
  have K3 := K2.bt (al w2 (.cells #[.string c, .int .i64 u] 24))
  have A3 := Bk.new w2 24 #[.string c, .int .i64 u]
  clear hb2 K2
  go_wp2_with fail
  refine (C3.out _ hb3).mono ?_
  rintro e w3 ⟨rfl, g⟩
  have hb4 := Mo.Nb hb3 g
  have K4 := Lib.hid (K3.bt g)
  have A4 := A3.bt g
  clear g hb3 K3 C3 A3
  have a0 := A4.cell 0 _ rfl
  have a1 := A4.cell 1 _ rfl
  rcases HW.out with ⟨h1, h2, hR⟩ | ⟨h1, hR⟩ | ⟨h1, h2, hR⟩
  · have HR := Lib.hid hR
    subst h1 h2
    clear HW hR
    go_wp2_with (refine wpList_store_row rfl _ _ _ rfl w.heap.size _ rfl rfl 24 _ K4.out (Mo.info_amt.trans rfl) rfl (by simp [Value.oneCell']) ?_)
    (try simp only [Exit.inBlock, Exit.then])
    exact bodyPost_ret (Mo.results2 (i := 2) (j := 3) rfl _ _ w.heap.size 24 _ rfl (K4.out.set _) Tryz.underlying24 (Mo.info_amt.trans rfl)) rfl ⟨by rw [HR.out]; rfl, below_setRow hb4 (Nat.le_refl _) _⟩
  · have HR := Lib.hid hR
    have hne : (T2 != 0) = true := by simp [h1]
    clear HW hR h1
    go_wp2_with (refine wpList_store_row rfl _ _ _ rfl w.heap.size _ rfl rfl 24 _ K4.out (Mo.info_amt.trans rfl) rfl (by simp [Value.oneCell']) ?_)
    (try simp only [Exit.inBlock, Exit.then])
    exact bodyPost_ret (Mo.results2 (i := 2) (j := 3) rfl _ _ w.heap.size 24 _ rfl (K4.out.set _) Tryz.underlying24 (Mo.info_amt.trans rfl)) rfl ⟨by rw [HR.out]; rfl, below_setRow hb4 (Nat.le_refl _) _⟩
  · have HR := Lib.hid hR
    have hne := bytes_ne h2
    subst h1
    clear HW hR h2
    go_wp2_with (refine wpList_store_row rfl _ _ _ rfl w.heap.size _ rfl rfl 24 _ K4.out (Mo.info_amt.trans rfl) rfl (by simp [Value.oneCell']) ?_)
    (try simp only [Exit.inBlock, Exit.then])
    exact bodyPost_ret (Mo.results2 (i := 2) (j := 3) rfl _ _ w.heap.size 24 _ rfl (K4.out.set _) Tryz.underlying24 (Mo.info_amt.trans rfl)) rfl ⟨by rw [HR.out]; rfl, below_setRow hb4 (Nat.le_refl _) _⟩
end Go.Proofs.YtkbncdcphohmiaaGreatDoor
