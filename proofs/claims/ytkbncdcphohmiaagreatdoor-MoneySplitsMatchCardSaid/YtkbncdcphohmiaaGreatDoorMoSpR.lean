/- Layer 8: the reference's Split. -/
import Derived.Test.YtkbncdcphohmiaaGreatDoorMoV
import Derived.Test.YtkbncdcphohmiaaGreatDoorMoSpW
set_option linter.unusedSimpArgs false
set_option linter.unusedVariables false
namespace Go.Proofs.YtkbncdcphohmiaaGreatDoor
open Go.RowKit
set_option maxRecDepth 100000

/-! ### the first of the greatest -/
def Mo.zrow (n : Nat) (f : Nat → Int) : List Int := (List.range n).map f
theorem Mo.zrow_len (n : Nat) (f : Nat → Int) : (Mo.zrow n f).length = n := by simp [Mo.zrow]
theorem Mo.zrow_get (n : Nat) (f : Nat → Int) (i : Nat) (h : i < n) : (Mo.zrow n f).getD i 0 = f i := by
  simp [Mo.zrow, List.getD_eq_getElem?_getD, h]
theorem Mo.zrow_set (n : Nat) (f g : Nat → Int) (k : Nat) (v : Int) (hv : g k = v) (h : ∀ i, i < n → i ≠ k → f i = g i) : (Mo.zrow n f).set k v = Mo.zrow n g := by
  apply List.ext_getElem
  · simp [Mo.zrow]
  · intro i h1 h2
    simp only [Mo.zrow, List.length_map, List.length_range, List.length_set] at h1 h2
    simp only [Mo.zrow, List.getElem_set, List.getElem_map, List.getElem_range]
    by_cases e : k = i
    · subst e; rw [if_pos rfl, hv]
    · rw [if_neg e]; exact h i h1 (fun e' => e e'.symm)
/-- What is left of the remainders when t units have been given. -/
def Mo.R (r : Nat → Nat) (n t i : Nat) : Int := if Mo.rank r n i < t then -1 else (r i : Int)
def Mo.Fst (f : Nat → Int) (k b : Nat) : Prop := b < k ∧ ∀ j, j < k → j ≠ b → f j < f b ∨ (f j = f b ∧ b < j)
theorem Mo.Fst.one (f : Nat → Int) : Mo.Fst f 1 0 := ⟨by omega, fun j hj hne => by omega⟩
theorem Mo.Fst.more {f : Nat → Int} {k b : Nat} (h : Mo.Fst f k b) (hk : f b < f k) : Mo.Fst f (k + 1) k := ⟨by omega, fun j hj hne => by
  by_cases e : j = b
  · subst e; exact .inl hk
  · have := h.2 j (by omega) e
    left; omega⟩
theorem Mo.Fst.less {f : Nat → Int} {k b : Nat} (h : Mo.Fst f k b) (hk : ¬ f b < f k) : Mo.Fst f (k + 1) b := ⟨by have := h.1; omega, fun j hj hne => by
  by_cases e : j = k
  · subst e
    have := h.1
    by_cases e2 : f j = f b
    · exact .inr ⟨e2, this⟩
    · left; omega
  · exact h.2 j (by omega) hne⟩
theorem Mo.pick {r : Nat → Nat} {n t b : Nat} (ht : t < n) (h : Mo.Fst (Mo.R r n t) n b) : Mo.rank r n b = t := by
  have hc := Mo.cnt_rank r n t (by omega)
  have hex : ∃ i, i < n ∧ ¬ Mo.rank r n i < t := by
    refine Classical.byContradiction fun hno => ?_
    have : Mo.cnt n (fun i => decide (Mo.rank r n i < t)) = n := Mo.cnt_all fun i hi => decide_eq_true (Classical.byContradiction fun h' => hno ⟨i, hi, h'⟩)
    omega
  obtain ⟨i, hi, hni⟩ := hex
  have hb0 : 0 ≤ Mo.R r n t b := by
    have hRi : 0 ≤ Mo.R r n t i := by unfold Mo.R; rw [if_neg hni]; omega
    by_cases e : i = b
    · rw [← e]; exact hRi
    · have := h.2 i hi e
      omega
  have hnb : ¬ Mo.rank r n b < t := fun hlt => by
    unfold Mo.R at hb0
    rw [if_pos hlt] at hb0
    omega
  refine (Mo.next hc h.1 hnb fun j hj hne hnj => ?_).1
  have h2 := h.2 j hj hne
  unfold Mo.R at h2
  rw [if_neg hnj, if_neg hnb] at h2
  rw [Mo.bf_iff]
  omega
theorem Mo.R_step {r : Nat → Nat} {n t b : Nat} (hb : b < n) (hr : Mo.rank r n b = t) : (Mo.zrow n (Mo.R r n t)).set b (-1) = Mo.zrow n (Mo.R r n (t + 1)) := by
  refine Mo.zrow_set n _ _ b (-1) (by unfold Mo.R; rw [if_pos (by omega)]) fun i hi hne => ?_
  have : Mo.rank r n i ≠ t := fun e => hne (Mo.rank_inj hi hb (e.trans hr.symm))
  unfold Mo.R
  by_cases h : Mo.rank r n i < t
  · rw [if_pos h, if_pos (by omega)]
  · rw [if_neg h, if_neg (by omega)]
theorem Mo.R_zero (r : Nat → Nat) (n : Nat) : Mo.row n r = Mo.zrow n (Mo.R r n 0) := by
  unfold Mo.row Mo.zrow
  refine List.map_congr_left fun i _ => ?_
  unfold Mo.R
  rw [if_neg (by omega)]

set_option maxHeartbeats 1000000 in
theorem Mo.rs_bad (u : Int) (A : Option Addr) (cp : Nat) (l : List Int) (w : World) (hz : Mo.Zs w w.heap.size A l) (hn : l.length ≤ 30) (hbad : Mo.okP l = false ∨ u < 0 ∨ 1000000000000 < u) :
    Calls Tryz.prog 24 #[.int .i64 u, .slice A l.length cp] w fun e w' => e = .returned (.tuple #[.slice none 0 0, .int .i64 1]) ∧ w = w' := by
  have HZ := Lib.hid hz
  by_cases hu0 : u < 0
  · clear hz hbad
    generalize l.length = n at *
    go_enter Tryz.func24, Tryz.ntmps24
    go_wp2
    go_ret2
    exact ⟨rfl, rfl⟩
  · by_cases hu1 : 1000000000000 < u
    · clear hz hbad
      generalize l.length = n at *
      go_enter Tryz.func24, Tryz.ntmps24
      go_wp2
      go_ret2
      exact ⟨rfl, rfl⟩
    · have hok : Mo.okP l = false := by
        rcases hbad with h | h | h
        · exact h
        · omega
        · omega
      have HOK := Lib.hid hok
      clear hz hbad hok
      have h4i : ¬ (400 : Int) < (l.length : Int) := by omega
      go_enter Tryz.func24, Tryz.ntmps24
      go_wp2
      go_loop [6, 7] (fun v i => ∃ k s : Nat, k ≤ l.length ∧ i = .int .i64 (k : Int) ∧ v = .int .i64 (s : Int) ∧ s ≤ 1000000 * k ∧ Hid (s = Mo.sum k (Mo.pn l)) ∧ Hid (Mo.PreR l k)) (fun _ i => l.length - (intOf i).toNat)
      case atStart => exact ⟨0, 0, Nat.zero_le _, rfl, rfl, Nat.le_refl _, Lib.hid rfl, Lib.hid (fun i h => absurd h (by omega))⟩
      case round =>
        obtain ⟨k, s, hk, rfl, rfl, hs, HSU, HP⟩ := hrel
        by_cases hlt : k < l.length
        · have hlti : (k : Int) < (l.length : Int) := by omega
          obtain ⟨ad, rfl, _, hc⟩ := HZ.out k hlt
          have HPN : Hid (Mo.inR (l.getD k 0) = true → l.getD k 0 = (Mo.pn l k : Int) ∧ Mo.pn l k ≤ 1000000) := Lib.hid Mo.pn_of
          have HST : Hid (Mo.inR (l.getD k 0) = true → Mo.PreR l (k + 1)) := Lib.hid (fun h i hi => by
            by_cases e : i = k
            · subst e; exact h
            · exact HP.out i (by omega))
          obtain ⟨x, hx⟩ : ∃ x, x = l.getD k 0 := ⟨_, rfl⟩
          have HX := Lib.hid hx
          rw [← hx] at hc HPN HST
          clear hx HP
          by_cases h0 : x < 0
          · clear HST HPN
            go_wp2
            go_ret2
            exact ⟨rfl, rfl⟩
          · by_cases h1 : 1000000 < x
            · clear HST HPN
              go_wp2
              go_ret2
              exact ⟨rfl, rfl⟩
            · have hin : Mo.inR x = true := by simp [Mo.inR]; omega
              have HIN := Lib.hid hin
              obtain ⟨q, hq⟩ : ∃ q, q = Mo.pn l k := ⟨_, rfl⟩
              obtain ⟨e1, e2⟩ := HPN.out hin
              rw [← hq] at e1 e2
              have HQ := Lib.hid hq
              clear hq hin HPN
              subst e1
              have HS2 : Hid (s + q = Mo.sum (k + 1) (Mo.pn l)) := Lib.hid (by rw [Mo.sum_succ, HSU.out, HQ.out])
              clear HSU
              go_wp2
              go_round
              case rel => exact ⟨k + 1, s + q, by omega, by go_num, by go_num, by omega, HS2, Lib.hid (HST.out HIN.out)⟩
              case measure => simp [intOf]; omega
        · have hlti : ¬ (k : Int) < (l.length : Int) := by omega
          have hkl : k = l.length := by omega
          have h0 : s = 0 := by
            refine Classical.byContradiction fun h0 => ?_
            have h1 : l.all Mo.inR = true := Mo.all_inR fun i hi => HP.out i (by omega)
            have h2 : Mo.sum l.length (Mo.pn l) ≠ 0 := by rw [← hkl, ← HSU.out]; exact h0
            have := HOK.out
            simp [Mo.okP, h1, h2] at this
            omega
          have h0i : ((s : Int) == 0) = true := by simp [h0]
          clear hkl h0
          go_wp2
          go_ret2
          exact ⟨rfl, rfl⟩

set_option maxHeartbeats 8000000 in
theorem Mo.rs_ok (u : Nat) (A : Option Addr) (cp : Nat) (l : List Int) (w : World) (hz : Mo.Zs w w.heap.size A l) (hl : l.length ≤ 30) (hok : Mo.okP l = true) (hu : u ≤ 1000000000000) :
    Calls Tryz.prog 24 #[.int .i64 (u : Int), .slice A l.length cp] w (Mo.SplP u l w) := by
  have HR := Lib.hid (Mo.right_of hok)
  obtain ⟨s, hs⟩ : ∃ s, s = Mo.sum l.length (Mo.pn l) := ⟨_, rfl⟩
  have HSS := Lib.hid hs
  have hs0 : 0 < s := by rw [hs]; exact HR.out.pos
  have hs1 : s ≤ 400000000 := by rw [hs]; exact HR.out.lim
  have HF : Hid (Mo.Fit u s l.length (Mo.pn l)) := Lib.hid (by rw [hs]; exact HR.out.fit u)
  have HZ : Hid (∀ v, Below w.heap.size w v → ∀ k, k < l.length → ∃ ad, A = some ad ∧ v.cell? (ad.add k) = some (.int .i64 (Mo.pn l k : Int)) ∧ Mo.pn l k ≤ 1000000) := Lib.hid (fun v hv k hk => by
    obtain ⟨ad, e, _, hc⟩ := hz.bt hv k hk
    obtain ⟨e1, e2⟩ := Mo.pn_of (HR.out.pre k hk)
    rw [e1] at hc
    exact ⟨ad, e, hc, e2⟩)
  have hn0 : 0 < l.length := HR.out.some
  obtain ⟨n, hn1⟩ : ∃ n, n = l.length := ⟨_, rfl⟩
  have HN := Lib.hid hn1
  obtain ⟨p, hp⟩ : ∃ p, p = Mo.pn l := ⟨_, rfl⟩
  have HPP := Lib.hid hp
  rw [← hn1] at hl hn0 HF HZ hs ⊢
  rw [← hp] at HF HZ hs
  have HS := Lib.hid hs
  have hs00 : ((s : Int) == 0) = false := by simp; omega
  clear hz hok hn1 hp HR hs
  go_enter Tryz.func24, Tryz.ntmps24
  go_wp2
  go_loop [6, 7] (fun v i => ∃ k x : Nat, k ≤ n ∧ i = .int .i64 (k : Int) ∧ v = .int .i64 (x : Int) ∧ x ≤ 1000000 * k ∧ Hid (x = Mo.sum k p)) (fun _ i => n - (intOf i).toNat)
  case atStart => exact ⟨0, 0, Nat.zero_le _, rfl, rfl, Nat.le_refl _, Lib.hid rfl⟩
  case round =>
    obtain ⟨k, x, hk, rfl, rfl, hx, HSU⟩ := hrel
    by_cases hlt : k < n
    · have hlti : (k : Int) < (n : Int) := by omega
      obtain ⟨ad, rfl, hc, hq⟩ := HZ.out w (Below.refl _ _) k hlt
      have HS2 : Hid (x + p k = Mo.sum (k + 1) p) := Lib.hid (by rw [Mo.sum_succ, HSU.out])
      generalize p k = q at *
      clear HSU
      go_wp2
      go_round
      case rel => exact ⟨k + 1, x + q, by omega, by go_num, by go_num, by omega, HS2⟩
      case measure => simp [intOf]; omega
    · have hlti : ¬ (k : Int) < (n : Int) := by omega
      have hkn : k = n := by omega
      have e1 : x = s := by rw [HSU.out, hkn, HS.out]
      subst e1
      clear hkn HSU hx
      go_wp2_with (at_make; suffices hsuf : Hid (wpList _ _ _ _ _ _) from hsuf.out)
      refine Lib.hid ?_
      refine list_make rfl (.tmp 52) (.tmp 52) 41 rfl rfl n (by omega) rfl rfl ?_
      intro w1 hh1 hb1
      obtain ⟨g3, hg3⟩ : ∃ g, g = w.heap.size := ⟨_, rfl⟩
      have HG3 := Lib.hid hg3
      rw [← hg3] at hh1 hb1 ⊢
      have HR1 := Lib.hid hh1
      have HB1 := Lib.hid hb1
      clear hh1 hb1 hg3
      go_wp2_with (at_make; suffices hsuf : Hid (wpList _ _ _ _ _ _) from hsuf.out)
      refine Lib.hid ?_
      refine list_make rfl (.tmp 55) (.tmp 55) 41 rfl rfl n (by omega) rfl rfl ?_
      intro w2 hh2 hb2
      obtain ⟨g4, hg4⟩ : ∃ g, g = w1.heap.size := ⟨_, rfl⟩
      have hlt34 : g3 < g4 := by rw [hg4]; exact (Array.getElem?_eq_some_iff.1 HR1.out).1
      have HB2 : Hid (Below g3 w w2) := Lib.hid (HB1.out.trans (hb2.mono (by rw [← hg4]; omega)))
      have HR3 : Hid (OwnZ w2 g3 g3 n (Mo.upto n 0 (Mo.fl u x p))) := Lib.hid (by
        have h := (hb2.block g3 (Array.getElem?_eq_some_iff.1 HR1.out).1).trans HR1.out
        have := own_of_row h (Nat.le_refl _) (by simp; unfold maxLen; omega)
        rw [← Mo.upto_zero]
        simpa using this)
      rw [← hg4] at hh2 ⊢
      have HR4 : Hid (OwnZ w2 g3 g4 n (Mo.upto n 0 (Mo.rm u x p))) := Lib.hid (by
        have := own_of_row hh2 (Nat.le_of_lt hlt34) (by simp; unfold maxLen; omega)
        rw [← Mo.upto_zero]
        simpa using this)
      have HZ3 : Hid (∀ v, Below g3 w v → ∀ k, k < n → ∃ ad, A = some ad ∧ v.cell? (ad.add k) = some (.int .i64 (p k : Int)) ∧ p k ≤ 1000000) := Lib.hid (fun v hv => HZ.out v (by rw [← HG3.out]; exact hv))
      clear hh2 hb2 hg4 HB1 HR1 HZ
      go_wp2
      have HR5 := Lib.hid (And.intro HR3.out HR4.out)
      clear HR3 HR4
      go_loopw [10, 11] (fun v i wr => ∃ k rest : Nat, k ≤ n ∧ v = .int .i64 (rest : Int) ∧ i = .int .i64 (k : Int) ∧ rest ≤ u ∧ Hid (rest + Mo.sum k (Mo.fl u x p) = u) ∧ Hid (OwnZ wr g3 g3 n (Mo.upto n k (Mo.fl u x p))) ∧ Hid (OwnZ wr g3 g4 n (Mo.upto n k (Mo.rm u x p))) ∧ Hid (Below g3 w wr)) (fun _ i _ => n - (intOf i).toNat)
      case atStart => exact ⟨0, u, Nat.zero_le _, rfl, rfl, Nat.le_refl _, Lib.hid rfl, Lib.hid HR5.out.1, Lib.hid HR5.out.2, HB2⟩
      case round =>
        clear HR5 HB2
        obtain ⟨k, rest, hk, rfl, rfl, hrest, HSU, HO3, HO4, HB⟩ := hrel
        by_cases hlt : k < n
        · have hlti : (k : Int) < (n : Int) := by omega
          obtain ⟨ad, hA, hc, hpk⟩ := HZ3.out wr HB.out k hlt
          subst hA
          obtain ⟨m, hm⟩ : ∃ m, m = u * p k := ⟨_, rfl⟩
          have hm2 : m ≤ 1000000000000000000 := by rw [hm]; exact Mo.lim u (p k) hu hpk
          obtain ⟨q, hq⟩ : ∃ q, q = m / x := ⟨_, rfl⟩
          obtain ⟨r, hr⟩ : ∃ r, r = m % x := ⟨_, rfl⟩
          have HQ : Hid (q = Mo.fl u x p k) := Lib.hid (by rw [hq, hm]; rfl)
          have HRQ : Hid (r = Mo.rm u x p k) := Lib.hid (by rw [hr, hm]; rfl)
          have hq2 : q ≤ m := by rw [hq]; exact Nat.div_le_self _ _
          have hr2 : r ≤ m := by rw [hr]; exact Nat.mod_le _ _
          have hq3 : q ≤ rest := by
            have h1 := HSU.out
            have h2 := Mo.sum_mono (Mo.fl u x p) (show k + 1 ≤ n by omega)
            rw [Mo.sum_succ, ← HQ.out] at h2
            have h3 := HF.out.le
            omega
          have HSU2 : Hid ((rest - q) + Mo.sum (k + 1) (Mo.fl u x p) = u) := Lib.hid (by
            have h1 := HSU.out
            rw [Mo.sum_succ, ← HQ.out]
            omega)
          obtain ⟨rq, hrq⟩ : ∃ rq, rq = rest - q := ⟨_, rfl⟩
          rw [← hrq] at HSU2
          have hrq2 : rq ≤ u := by omega
          have f4 : (rest : Int) - (q : Int) = (rq : Int) := by omega
          have f5 : wrap64 (q : Int) = (q : Int) := Mo.w64 q (by omega)
          have hs0' : ¬ (x : Int) = 0 := by omega
          have c3 := HO3.out.cell k (by rw [Mo.upto_len]; exact hlt)
          have r3 := HO3.out.frozen k
          have F1 : Hid (wrap64 ((u : Int) * (p k : Int)) = (m : Int)) := Lib.hid (by
            rw [← Int.natCast_mul, ← hm]
            exact Mo.w64 m hm2)
          have F3 : Hid (Int.tdiv (m : Int) (x : Int) = (q : Int)) := Lib.hid (by rw [hq]; exact Mo.tdiv_cast m x)
          have F6 : Hid (Int.tmod (m : Int) (x : Int) = (r : Int)) := Lib.hid (by rw [hr]; exact Mo.tmod_cast m x)
          have F5 := Lib.hid f5
          have F4 := Lib.hid f4
          obtain ⟨pk, hpk'⟩ : ∃ pk, pk = p k := ⟨_, rfl⟩
          rw [← hpk'] at F1 hc
          have HPK := Lib.hid hpk'
          clear hm hq hr hrq f4 f5 hq2 hr2 hq3 hpk hpk'
          go_upto_region 19 with fail
          rw [F1.out, F3.out, F5.out]
          have HP3 : Hid (OwnZ (wr.setCell ⟨g3, k, none⟩ (.int .i64 (q : Int))) g3 g3 n (Mo.upto n (k + 1) (Mo.fl u x p))) := Lib.hid (by
            have := HO3.out.stored k (q : Int)
            rw [HQ.out, Mo.upto_step] at this
            rw [HQ.out]
            exact this)
          have HP4 : Hid (OwnZ (wr.setCell ⟨g3, k, none⟩ (.int .i64 (q : Int))) g3 g4 n (Mo.upto n k (Mo.rm u x p))) := Lib.hid (HO4.out.other (by omega) k _)
          have HBp : Hid (Below g3 w (wr.setCell ⟨g3, k, none⟩ (.int .i64 (q : Int)))) := Lib.hid (HB.out.setCell (Nat.le_refl _) _)
          clear HO3 HO4 HB c3 r3 hc
          generalize wr.setCell ⟨g3, k, none⟩ (.int .i64 (q : Int)) = w4 at *
          obtain ⟨ad', hA', hc, hpk⟩ := HZ3.out w4 HBp.out k hlt
          cases hA'
          have r4 := HP4.out.frozen k
          have c4 := HP4.out.cell k (by rw [Mo.upto_len]; exact hlt)
          rw [← HPK.out] at hc
          clear hpk
          go_upto_region 20 with fail
          rw [F1.out, F6.out]
          have HP3' : Hid (OwnZ (w4.setCell ⟨g4, k, none⟩ (.int .i64 (r : Int))) g3 g3 n (Mo.upto n (k + 1) (Mo.fl u x p))) := Lib.hid (HP3.out.other (by omega) k _)
          have HP4' : Hid (OwnZ (w4.setCell ⟨g4, k, none⟩ (.int .i64 (r : Int))) g3 g4 n (Mo.upto n (k + 1) (Mo.rm u x p))) := Lib.hid (by
            have := HP4.out.stored k (r : Int)
            rw [HRQ.out, Mo.upto_step] at this
            rw [HRQ.out]
            exact this)
          have HBq : Hid (Below g3 w (w4.setCell ⟨g4, k, none⟩ (.int .i64 (r : Int)))) := Lib.hid (HBp.out.setCell (Nat.le_of_lt hlt34) _)
          have x3 : (w4.setCell ⟨g4, k, none⟩ (.int .i64 (r : Int))).cell? ⟨g3, k, none⟩ = some (.int .i64 (q : Int)) := by
            have := HP3'.out.cell k (by rw [Mo.upto_len]; exact hlt)
            unfold Mo.upto at this
            rw [Mo.row_get _ _ _ hlt, if_pos (by omega), ← HQ.out] at this
            exact this
          clear HP3 HP4 HBp c4 r4 hc
          generalize w4.setCell ⟨g4, k, none⟩ (.int .i64 (r : Int)) = w5 at *
          have f4 := F4.out
          go_wp2
          go_roundw
          case rel => exact ⟨k + 1, rq, by omega, rfl, by go_num, by omega, HSU2, HP3', HP4', HBq⟩
          case measure => simp [intOf]; omega
        · have hlti : ¬ (k : Int) < (n : Int) := by omega
          have hkn : k = n := by omega
          have HL : Hid (rest = Mo.left u x p n) := Lib.hid (by
            have h1 := HSU.out
            rw [hkn] at h1
            unfold Mo.left
            omega)
          have hrk : rest ≤ n := by
            have h1 := HF.out.left_cnt
            rw [← HL.out] at h1
            exact Nat.le_trans h1 (Mo.cnt_bound _ _)
          have HQ3 : Hid (OwnZ wr g3 g3 n (Mo.row n (Mo.upS u x n p 0))) := Lib.hid (by
            rw [← Mo.upS_zero, ← Mo.upto_all]
            have := HO3.out
            rw [hkn] at this
            exact this)
          have HQ4 : Hid (OwnZ wr g3 g4 n (Mo.zrow n (Mo.R (Mo.rm u x p) n 0))) := Lib.hid (by
            rw [← Mo.R_zero, ← Mo.upto_all]
            have := HO4.out
            rw [hkn] at this
            exact this)
          clear hkn HO3 HO4 HSU
          go_wp2
          go_loopw [10] (fun v wr => ∃ t : Nat, t ≤ rest ∧ v = .int .i64 (((rest - t : Nat)) : Int) ∧ Hid (OwnZ wr g3 g3 n (Mo.row n (Mo.upS u x n p t))) ∧ Hid (OwnZ wr g3 g4 n (Mo.zrow n (Mo.R (Mo.rm u x p) n t))) ∧ Hid (Below g3 w wr)) (fun v _ => (intOf v).toNat)
          case atStart => exact ⟨0, Nat.zero_le _, rfl, HQ3, HQ4, HB⟩
          case round =>
            clear HQ3 HQ4 HB
            obtain ⟨t, ht, rfl, HO3, HO4, HB⟩ := hrel
            obtain ⟨z, hz⟩ : ∃ z, z = rest - t := ⟨_, rfl⟩
            rw [← hz]
            have HZZ := Lib.hid hz
            by_cases htr : 0 < z
            · have htz : (0 : Int) < (z : Int) := by omega
              have htn : t < n := by omega
              have hzu : z ≤ 1000000 := by omega
              have htt : t + 1 ≤ rest := by omega
              clear hz
              have HRC : Hid (∀ j, j < n → -1 ≤ Mo.R (Mo.rm u x p) n t j ∧ Mo.R (Mo.rm u x p) n t j ≤ 400000000) := Lib.hid (fun j _ => by
                have : Mo.rm u x p j < x := Nat.mod_lt _ hs0
                unfold Mo.R
                split <;> omega)
              have HC4 : Hid (∀ j, j < n → wr.cell? ⟨g4, j, none⟩ = some (.int .i64 (Mo.R (Mo.rm u x p) n t j))) := Lib.hid (fun j hj => by
                have := HO4.out.cell j (by rw [Mo.zrow_len]; exact hj)
                rw [Mo.zrow_get _ _ _ hj] at this
                exact this)
              have HPI : Hid (∀ b, Mo.Fst (Mo.R (Mo.rm u x p) n t) n b → Mo.rank (Mo.rm u x p) n b = t) := Lib.hid (fun b h => Mo.pick htn h)
              have HST : Hid (∀ b, b < n → Mo.rank (Mo.rm u x p) n b = t → (Mo.row n (Mo.upS u x n p t)).set b ((Mo.upS u x n p t b + 1 : Nat) : Int) = Mo.row n (Mo.upS u x n p (t + 1))) := Lib.hid (fun b hb h => Mo.upS_step hb h)
              have HSR : Hid (∀ b, b < n → Mo.rank (Mo.rm u x p) n b = t → (Mo.zrow n (Mo.R (Mo.rm u x p) n t)).set b (-1) = Mo.zrow n (Mo.R (Mo.rm u x p) n (t + 1))) := Lib.hid (fun b hb h => Mo.R_step hb h)
              have HUP : Hid (∀ b, b < n → Mo.upS u x n p t b ≤ 2000000000000000000) := Lib.hid (fun b hb => by
                obtain ⟨_, _, _, hpb⟩ := HZ3.out wr HB.out b hb
                have hq : Mo.fl u x p b ≤ u * p b := Nat.div_le_self _ _
                have hq2 := Mo.lim u (p b) hu hpb
                unfold Mo.upS
                split <;> omega)
              go_wp2
              go_loopw [12, 13] (fun b i wi => ∃ bb k q : Nat, b = .int .i64 (bb : Int) ∧ i = .int .i64 (k : Int) ∧ k ≤ n ∧ bb < k ∧ Hid (Mo.Fst (Mo.R (Mo.rm u x p) n t) k bb) ∧ wi = wr.drewN q) (fun _ i _ => n - (intOf i).toNat)
              case atStart => exact ⟨0, 1, 0, rfl, rfl, by omega, by omega, Lib.hid (Mo.Fst.one _), rfl⟩
              case round =>
                obtain ⟨bb, k, q, rfl, rfl, hk, hbk, HFS, rfl⟩ := hrel
                by_cases hkn : k < n
                · have hkni : (k : Int) < (n : Int) := by omega
                  have c1 := HC4.out k hkn
                  have c2 := HC4.out bb (by omega)
                  have HM1 := Lib.hid (fun h => HFS.out.more h)
                  have HM2 := Lib.hid (fun h => HFS.out.less h)
                  obtain ⟨y1, y2⟩ := HRC.out k hkn
                  obtain ⟨y3, y4⟩ := HRC.out bb (by omega)
                  obtain ⟨a, ha⟩ : ∃ a, a = Mo.R (Mo.rm u x p) n t k := ⟨_, rfl⟩
                  obtain ⟨d, hd⟩ : ∃ d, d = Mo.R (Mo.rm u x p) n t bb := ⟨_, rfl⟩
                  rw [← ha] at c1 y1 y2 HM1 HM2
                  rw [← hd] at c2 y3 y4 HM1 HM2
                  clear ha hd HFS
                  by_cases had : d < a
                  · have HM := Lib.hid (HM1.out had)
                    clear HM1 HM2
                    go_wp2
                    go_quiet (fail)
                    go_wp2
                    go_roundw
                    case rel => exact ⟨k, k + 1, q + nq, rfl, by go_num, by omega, by omega, HM, by first | rfl | rw [World.drewN_drewN]⟩
                    case measure => simp [intOf]; omega
                  · have HM := Lib.hid (HM2.out had)
                    clear HM1 HM2
                    go_wp2
                    go_quiet (fail)
                    go_wp2
                    go_roundw
                    case rel => exact ⟨bb, k + 1, q + nq, rfl, by go_num, by omega, by omega, HM, by first | rfl | rw [World.drewN_drewN]⟩
                    case measure => simp [intOf]; omega
                · have hkni : ¬ (k : Int) < (n : Int) := by omega
                  have hke : k = n := by omega
                  have HRK : Hid (Mo.rank (Mo.rm u x p) n bb = t) := Lib.hid (HPI.out bb (by have h := HFS.out; rwa [hke] at h))
                  have hbn : bb < n := by omega
                  have HS1 := Lib.hid (HST.out bb hbn HRK.out)
                  have HS2 := Lib.hid (HSR.out bb hbn HRK.out)
                  have hup := HUP.out bb hbn
                  have HO3' : Hid (OwnZ (wr.drewN q) g3 g3 n (Mo.row n (Mo.upS u x n p t))) := Lib.hid (HO3.out.heap rfl)
                  have HO4' : Hid (OwnZ (wr.drewN q) g3 g4 n (Mo.zrow n (Mo.R (Mo.rm u x p) n t))) := Lib.hid (HO4.out.heap rfl)
                  have HB' : Hid (Below g3 w (wr.drewN q)) := Lib.hid ⟨HB.out.os, HB.out.tape, HB.out.output, HB.out.size, HB.out.block⟩
                  have c3 := HO3'.out.cell bb (by rw [Mo.row_len]; exact hbn)
                  have r3 := HO3'.out.frozen bb
                  rw [Mo.row_get _ _ _ hbn] at c3
                  obtain ⟨v, hv⟩ : ∃ v, v = Mo.upS u x n p t bb := ⟨_, rfl⟩
                  rw [← hv] at c3 HS1 hup
                  clear hke HFS hv HST HSR HUP HPI HC4 HRC HO3 HO4 HB
                  generalize wr.drewN q = wq at *
                  go_upto_region 29 with fail
                  have HP3 : Hid (OwnZ (wq.setCell ⟨g3, bb, none⟩ (.int .i64 ((v : Int) + 1))) g3 g3 n (Mo.row n (Mo.upS u x n p (t + 1)))) := Lib.hid (by
                    rw [← HS1.out]
                    exact HO3'.out.stored bb ((v : Int) + 1))
                  have HP4 : Hid (OwnZ (wq.setCell ⟨g3, bb, none⟩ (.int .i64 ((v : Int) + 1))) g3 g4 n (Mo.zrow n (Mo.R (Mo.rm u x p) n t))) := Lib.hid (HO4'.out.other (by omega) bb _)
                  have HBp : Hid (Below g3 w (wq.setCell ⟨g3, bb, none⟩ (.int .i64 ((v : Int) + 1)))) := Lib.hid (HB'.out.setCell (Nat.le_refl _) _)
                  clear HO3' HO4' HB' c3 r3 hup
                  generalize wq.setCell ⟨g3, bb, none⟩ (.int .i64 ((v : Int) + 1)) = w4 at *
                  have r4 := HP4.out.frozen bb
                  have c4 := HP4.out.cell bb (by rw [Mo.zrow_len]; exact hbn)
                  have HP3' : Hid (OwnZ (w4.setCell ⟨g4, bb, none⟩ (.int .i64 (-1))) g3 g3 n (Mo.row n (Mo.upS u x n p (t + 1)))) := Lib.hid (HP3.out.other (by omega) bb _)
                  have HP4' : Hid (OwnZ (w4.setCell ⟨g4, bb, none⟩ (.int .i64 (-1))) g3 g4 n (Mo.zrow n (Mo.R (Mo.rm u x p) n (t + 1)))) := Lib.hid (by
                    rw [← HS2.out]
                    exact HP4.out.stored bb (-1))
                  have HBq : Hid (Below g3 w (w4.setCell ⟨g4, bb, none⟩ (.int .i64 (-1)))) := Lib.hid (HBp.out.setCell (Nat.le_of_lt hlt34) _)
                  clear HP3 HP4 HBp
                  go_wp2
                  have hzz := HZZ.out
                  exact ⟨⟨t + 1, htt, by rw [show rest - (t + 1) = z - 1 by omega]; go_num, HP3', HP4', HBq⟩, by simp [intOf]; omega⟩
            · have htz : ¬ (0 : Int) < (z : Int) := by omega
              have htr2 : t = rest := by omega
              have HOF : Hid (OwnZ wr w.heap.size g3 l.length (Mo.row l.length (Mo.out u (Mo.sum l.length (Mo.pn l)) (Mo.pn l) l.length))) := Lib.hid (by
                have h := HO3.out
                rw [htr2, HL.out, Mo.upS_end] at h
                rw [← HN.out, ← HPP.out, ← HS.out, ← HG3.out]
                exact h)
              have HBF : Hid (Below w.heap.size w wr) := Lib.hid (by rw [← HG3.out]; exact HB.out)
              clear HO3 HO4 HB htr2
              go_wp2
              go_ret2
              exact ⟨g3, by rw [← HN.out]; rfl, HOF.out, HBF.out⟩
end Go.Proofs.YtkbncdcphohmiaaGreatDoor
