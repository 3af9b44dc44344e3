/- The mathematics of the texts of instants. Nothing of the program is imported. -/
import Derived.Test.YtkkgefefbamcpaaDoorClMath
import Derived.Test.YtkkgefefbamcpaaDoorNaMath
import Derived.Lib.AtoiAll
import Derived.Lib.Index
import Derived.Lib.CutLaws
set_option linter.unusedSimpArgs false
set_option linter.unusedVariables false
namespace Go.Proofs.YtkkgefefbamcpaaDoor.Cl
open Go

/-- Two digits; the text of an instant. -/
def tw (n : Nat) : List UInt8 := Lib.decDigits (n / 10) ++ Lib.decDigits (n % 10)
def txl (t : Nat) : List UInt8 := Lib.decDigits (t / 1440) ++ 47 :: (tw (t % 1440 / 60) ++ 58 :: tw (t % 1440 % 60))

theorem tw_lt {n : Nat} (h : n < 100) : tw n = [UInt8.ofNat (48 + n / 10), UInt8.ofNat (48 + n % 10)] := by
  unfold tw
  rw [Na.dec_lt (by omega), Na.dec_lt (by omega)]
  rfl
theorem tw_ge {n : Nat} (h : 10 ≤ n) (_h2 : n < 100) : tw n = Lib.decDigits n := by
  rw [Na.dec_ge (n := n) (by omega), ← Na.dec_lt (n := n % 10) (by omega)]
  rfl
theorem tw_one {n : Nat} (h : n < 10) : tw n = 48 :: Lib.decDigits n := by
  unfold tw
  rw [show n / 10 = 0 by omega, Na.dec_zero, show n % 10 = n by omega]
  rfl
theorem tw_inj {m n : Nat} (hm : m < 100) (hn : n < 100) (h : tw m = tw n) : m = n := by
  rw [tw_lt hm, tw_lt hn] at h
  simp only [List.cons.injEq, and_true] at h
  have e1 := congrArg UInt8.toNat h.1
  have e2 := congrArg UInt8.toNat h.2
  rw [UInt8.toNat_ofNat', UInt8.toNat_ofNat'] at e1 e2
  omega
theorem tw_all (n : Nat) (c : UInt8) (hc : c ∈ tw n) : Na.isD c = true := by
  unfold tw at hc
  rcases List.mem_append.1 hc with h | h
  · exact List.all_eq_true.1 (Na.dec_all _) c h
  · exact List.all_eq_true.1 (Na.dec_all _) c h

/-- The first c of a text. -/
def cutAt (c : UInt8) : List UInt8 → List UInt8 × List UInt8 × Bool
  | [] => ([], [], false)
  | x :: l => if x = c then ([], l, true) else (x :: (cutAt c l).1, (cutAt c l).2.1, (cutAt c l).2.2)
theorem cutAt_index (c : UInt8) : ∀ l : List UInt8, (Lib.index l [c] = -1 ∧ cutAt c l = (l, [], false)) ∨ ∃ i : Nat, Lib.index l [c] = (i : Int) ∧ cutAt c l = (l.take i, l.drop (i + 1), true)
  | [] => .inl ⟨rfl, rfl⟩
  | x :: l => by
    unfold Lib.index cutAt
    by_cases hc : x = c
    · subst hc
      rw [if_pos (by simp [List.isPrefixOf]), if_pos rfl]
      exact .inr ⟨0, rfl, rfl⟩
    · have h1 : ([c] : List UInt8).isPrefixOf (x :: l) = false := by
        simp [List.isPrefixOf, Ne.symm hc]
      rw [h1, if_neg hc]
      rcases cutAt_index c l with ⟨h2, h3⟩ | ⟨i, h2, h3⟩
      · left
        rw [h2, h3]
        exact ⟨rfl, rfl⟩
      · right
        refine ⟨i + 1, ?_, ?_⟩
        · rw [h2]
          have : ((i : Int) == -1) = false := by simp
          rw [this]
          simp
        · rw [h3]
          rfl
theorem cut_at (c : UInt8) (l : List UInt8) : Lib.cut l [c] = cutAt c l := by
  unfold Lib.cut
  rcases cutAt_index c l with ⟨h2, h3⟩ | ⟨i, h2, h3⟩
  · rw [h2, h3]
    rfl
  · rw [h2, h3, if_pos (by omega)]
    rfl
theorem cutAt_len (c : UInt8) : ∀ l : List UInt8, (cutAt c l).1.length ≤ l.length ∧ (cutAt c l).2.1.length ≤ l.length
  | [] => ⟨Nat.le_refl _, Nat.le_refl _⟩
  | x :: l => by
    have := cutAt_len c l
    unfold cutAt
    split
    · exact ⟨Nat.zero_le _, by simp⟩
    · simp only [List.length_cons]
      omega
theorem cutAt_app (c : UInt8) : ∀ (a r : List UInt8), (∀ x ∈ a, x ≠ c) → cutAt c (a ++ c :: r) = (a, r, true)
  | [], r, _ => by simp [cutAt]
  | x :: a, r, h => by
    have ih := cutAt_app c a r (fun y hy => h y (List.mem_cons_of_mem _ hy))
    rw [List.cons_append, cutAt, if_neg (h x (List.mem_cons_self ..)), ih]

theorem dig_ne {x c : UInt8} (hx : Na.isD x = true) (hc : Na.isD c = false) : x ≠ c := by
  rintro rfl
  rw [hx] at hc
  cases hc
theorem dec_no (c : UInt8) (hc : Na.isD c = false) (n : Nat) : ∀ x ∈ Lib.decDigits n, x ≠ c := fun x hx => dig_ne (List.all_eq_true.1 (Na.dec_all n) x hx) hc
theorem tw_no (c : UInt8) (hc : Na.isD c = false) (n : Nat) : ∀ x ∈ tw n, x ≠ c := fun x hx => dig_ne (tw_all n x hx) hc
theorem txl_cut (t : Nat) : cutAt 47 (txl t) = (Lib.decDigits (t / 1440), tw (t % 1440 / 60) ++ 58 :: tw (t % 1440 % 60), true) := cutAt_app 47 _ _ (dec_no 47 (by decide) _)
theorem txl_cut2 (t : Nat) : cutAt 58 (tw (t % 1440 / 60) ++ 58 :: tw (t % 1440 % 60)) = (tw (t % 1440 / 60), tw (t % 1440 % 60), true) := cutAt_app 58 _ _ (tw_no 58 (by decide) _)

theorem txl_inj {t u : Nat} (h : txl t = txl u) : t = u := by
  have h1 := congrArg (cutAt 47) h
  rw [txl_cut, txl_cut] at h1
  simp only [Prod.mk.injEq, and_true] at h1
  have h2 := congrArg (cutAt 58) h1.2
  rw [txl_cut2, txl_cut2] at h2
  simp only [Prod.mk.injEq, and_true] at h2
  have e1 := Na.dec_inj h1.1
  have e2 := tw_inj (by omega) (by omega) h2.1
  have e3 := tw_inj (by omega) (by omega) h2.2
  omega

/-! ### numbers of texts -/
theorem fold_ge : ∀ (l : List UInt8) (a : Nat), a ≤ l.foldl (fun n c => n * 10 + Na.dv c) a
  | [], a => Nat.le_refl a
  | c :: l, a => by
    have := fold_ge l (a * 10 + Na.dv c)
    rw [List.foldl_cons]
    omega
theorem parse_ok : ∀ (l : List UInt8) (acc : Nat), l.all Na.isD = true → l.foldl (fun n c => n * 10 + Na.dv c) acc < 1000000000 → Lib.parseUint10 acc l = .ok (l.foldl (fun n c => n * 10 + Na.dv c) acc)
  | [], acc, _, _ => rfl
  | c :: r, acc, hl, hb => by
    simp only [List.all_cons, Bool.and_eq_true] at hl
    have hc := (Na.isD_iff _).1 hl.1
    rw [List.foldl_cons] at hb ⊢
    have hg := fold_ge r (acc * 10 + Na.dv c)
    have hdv : c.toNat - 48 = Na.dv c := rfl
    rw [Lib.parseUint10, if_pos hc, hdv, if_neg (by omega), if_neg (by omega)]
    exact parse_ok r _ hl.2 hb
theorem atoi_ok (l : List UInt8) (h : l.all Na.isD = true) (h0 : l ≠ []) (hb : Na.val l < 1000000000) : Lib.atoiAll l = .ok (Na.val l : Int) := by
  have hp := parse_ok l 0 h hb
  cases l with
  | nil => exact absurd rfl h0
  | cons c r =>
    have hc := (Na.isD_iff _).1 (List.all_eq_true.1 h c List.mem_cons_self)
    have hv : (c :: r).foldl (fun n c => n * 10 + Na.dv c) 0 = Na.val (c :: r) := rfl
    rw [hv] at hp
    have hm : Lib.parseMag (c :: r) = .ok (Na.val (c :: r)) := by
      unfold Lib.parseMag
      rw [if_neg (by simp)]
      exact hp
    unfold Lib.atoiAll
    have n1 : ¬ (c.toNat = 43 ∨ c.toNat = 45) := by omega
    have n2 : ¬ c.toNat = 45 := by omega
    have n3 : ¬ c.toNat = 43 := by omega
    simp only [n2, n3, or_self, if_false, hm]
    generalize Na.val (c :: r) = v at *
    rw [if_neg (by omega)]
    simp
theorem atoi_dec {n : Nat} (h : n < 1000000000) : Lib.atoiAll (Lib.decDigits n) = .ok (n : Int) := by
  have := atoi_ok (Lib.decDigits n) (Na.dec_all n) (Na.dec_ne n) (by rw [Na.val_dec]; exact h)
  rwa [Na.val_dec] at this
theorem val_tw {n : Nat} (h : n < 100) : Na.val (tw n) = n := by
  unfold tw
  rw [Na.val_append, Na.val_dec, Na.val_dec, Na.dec_lt (n := n % 10) (by omega)]
  simp
  omega
theorem atoi_tw {n : Nat} (h : n < 100) : Lib.atoiAll (tw n) = .ok (n : Int) := by
  have := atoi_ok (tw n) (List.all_eq_true.2 (tw_all n)) (by rw [tw_lt h]; simp) (by rw [val_tw h]; omega)
  rwa [val_tw h] at this

/-- The number beside the error of Atoi, or without one. -/
def atoiV (l : List UInt8) : Int := match Lib.atoiAll l with
  | .ok v => v
  | .syntax => 0
  | .range => Lib.atoiSat l

/-! ### the functions' answers -/
def txt (t : Nat) : ByteArray := ⟨(txl t).toArray⟩
def nilT : ByteArray := ⟨#[]⟩
def textF (t : Int) : ByteArray × Int := if isI t then (txt t.toNat, 0) else (nilT, 1)
theorem txt_list (t : Nat) : (txt t).data.toList = txl t := rfl
theorem txt_inj {t u : Nat} (h : txt t = txt u) : t = u := txl_inj (by have := congrArg (fun b : ByteArray => b.data.toList) h; exact this)

open Classical in
/-- The instant of a text. -/
noncomputable def parseF (s : ByteArray) : Int × Int := if h : ∃ t : Nat, t ≤ 144001439 ∧ txt t = s then ((h.choose : Int), 0) else (0, 5)
theorem parseF_txt {t : Nat} (h : t ≤ 144001439) : parseF (txt t) = ((t : Int), 0) := by
  have h1 : ∃ u : Nat, u ≤ 144001439 ∧ txt u = txt t := ⟨t, h, rfl⟩
  unfold parseF
  rw [dif_pos h1, txt_inj h1.choose_spec.2]
theorem parseF_not {s : ByteArray} (h : ∀ t : Nat, t ≤ 144001439 → txt t ≠ s) : parseF s = (0, 5) := by
  unfold parseF
  rw [dif_neg (fun ⟨t, h1, h2⟩ => h t h1 h2)]
theorem isI_iff (t : Int) : isI t = true ↔ 0 ≤ t ∧ t ≤ 144001439 := by
  unfold isI
  simp
theorem dec_size {n k : Nat} (hk : 1 ≤ k) (h : n < 10 ^ k) : (Lib.decDigits n).length ≤ k := (Na.dec_len hk).2 h
theorem txl_len {t : Nat} (h : t ≤ 144001439) : (txl t).length = (Lib.decDigits (t / 1440)).length + 6 ∧ (Lib.decDigits (t / 1440)).length ≤ 6 := by
  refine ⟨?_, dec_size (by omega) (by omega)⟩
  unfold txl
  rw [tw_lt (by omega), tw_lt (by omega)]
  simp
end Go.Proofs.YtkkgefefbamcpaaDoor.Cl
