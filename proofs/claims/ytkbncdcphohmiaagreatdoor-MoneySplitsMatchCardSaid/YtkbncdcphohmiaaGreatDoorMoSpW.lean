/- MoneySplits. -/
import Derived.Test.YtkbncdcphohmiaaGreatDoorMoV
import Derived.Deep.DeepCutAuto
set_option linter.unusedSimpArgs false
set_option linter.unusedVariables false
namespace Go.Proofs.YtkbncdcphohmiaaGreatDoor
open Go.RowKit
set_option maxRecDepth 100000

theorem Mo.zs_get {w : World} {B g : Nat} {n : Nat} {f : Nat → Nat} (h : Mo.Zs w B (some ⟨g, 0, none⟩) (Mo.row n f)) {k : Nat} (hk : k < n) : w.cell? ⟨g, k, none⟩ = some (.int .i64 (f k : Int)) := by
  obtain ⟨ad, e, _, hc⟩ := h k (by rw [Mo.row_len]; exact hk)
  cases e
  rwa [Mo.row_get _ _ _ hk, Mo.add_k] at hc
theorem Mo.sp_len (A : Option Addr) (c : Nat) (l : List Int) (u : Int) (w : World) (H : Hid (Calls Tryz.prog 10 #[] w fun e w' => e = .returned (.bool true) ∧ Below w.heap.size w w')) (h : (30 : Int) < (l.length : Int)) :
    Calls Tryz.prog 8 #[.int .i64 u, .slice A l.length c] w fun e w' => e = .returned (.bool true) ∧ Below w.heap.size w w' := by
  generalize l.length = n at *
  go_enter Tryz.func8, Tryz.ntmps8
  go_wp2_with fail
  refine H.out.mono ?_
  rintro e w1 ⟨rfl, hb⟩
  go_wp2_with fail
  go_ret
  exact ⟨rfl, hb⟩
theorem Mo.sp_bad (A : Option Addr) (c : Nat) (l : List Int) (u : Int) (w : World) (H : Hid (Calls Tryz.prog 10 #[] w fun e w' => e = .returned (.bool true) ∧ Below w.heap.size w w')) (h : ¬ (30 : Int) < (l.length : Int))
    (C : Hid (∀ v, Below w.heap.size w v → Calls Tryz.prog 23 #[.int .i64 u, .slice A l.length c] v fun e w' => e = .returned (.tuple #[.slice none 0 0, .int .i64 1]) ∧ Below v.heap.size v w')) :
    Calls Tryz.prog 8 #[.int .i64 u, .slice A l.length c] w fun e w' => e = .returned (.bool true) ∧ Below w.heap.size w w' := by
  generalize l.length = n at *
  go_enter Tryz.func8, Tryz.ntmps8
  go_wp2_with fail
  refine H.out.mono ?_
  rintro e w1 ⟨rfl, hb⟩
  go_wp2_with fail
  refine (C.out _ hb).mono ?_
  rintro e w2 ⟨rfl, hb2⟩
  have hb3 := Mo.Nb hb hb2
  go_wp2_with fail
  go_ret
  exact ⟨rfl, hb3⟩

set_option maxHeartbeats 4000000 in
theorem Mo.sp_ok (A : Option Addr) (c : Nat) (l : List Int) (u : Nat) (w : World) (H : Hid (Calls Tryz.prog 10 #[] w fun e w' => e = .returned (.bool true) ∧ Below w.heap.size w w')) (h : ¬ (30 : Int) < (l.length : Int)) (hz : Mo.Zs w w.heap.size A l) (hok : Mo.okP l = true) (hu : u ≤ 1000000000000) :
    Calls Tryz.prog 8 #[.int .i64 (u : Int), .slice A l.length c] w fun e w' => e = .returned (.bool true) ∧ Below w.heap.size w w' := by
  have HR := Lib.hid (Mo.right_of hok)
  obtain ⟨s, hs⟩ : ∃ s, s = Mo.sum l.length (Mo.pn l) := ⟨_, rfl⟩
  have hs0 : 0 < s := by rw [hs]; exact HR.out.pos
  have hs1 : s ≤ 400000000 := by rw [hs]; exact HR.out.lim
  have HF : Hid (Mo.Fit u s l.length (Mo.pn l)) := Lib.hid (by rw [hs]; exact HR.out.fit u)
  have HPN : Hid (∀ i, i < l.length → l.getD i 0 = (Mo.pn l i : Int) ∧ Mo.pn l i ≤ 1000000) := Lib.hid (fun i hi => Mo.pn_of (HR.out.pre i hi))
  have C : Hid (∀ v, Below w.heap.size w v → Calls Tryz.prog 23 #[.int .i64 (u : Int), .slice A l.length c] v fun e w' => ∃ g, e = .returned (.tuple #[.slice (some ⟨g, 0, none⟩) l.length l.length, .int .i64 0]) ∧ Mo.Zs w' w'.heap.size (some ⟨g, 0, none⟩) (Mo.row l.length (Mo.out u s (Mo.pn l) l.length)) ∧ Below v.heap.size v w') := Lib.hid (fun v hv => by
    refine (Mo.split_ok u A c l v (hz.bt hv) (by omega) hok hu).mono ?_
    rintro e w' ⟨g, rfl, h1, h2⟩
    rw [← hs] at h1
    exact ⟨g, rfl, Mo.own_zs h1, h2⟩)
  have HZ : Hid (∀ v, Below w.heap.size w v → ∀ k, k < l.length → ∃ ad, A = some ad ∧ v.cell? (ad.add k) = some (.int .i64 (Mo.pn l k : Int)) ∧ Mo.pn l k ≤ 1000000) := Lib.hid (fun v hv k hk => by
    obtain ⟨ad, e, _, hc⟩ := hz.bt hv k hk
    obtain ⟨e1, e2⟩ := HPN.out k hk
    rw [e1] at hc
    exact ⟨ad, e, hc, e2⟩)
  have hn : l.length ≤ 30 := by omega
  have HS := Lib.hid hs
  obtain ⟨n, hn1⟩ : ∃ n, n = l.length := ⟨_, rfl⟩
  obtain ⟨o, ho⟩ : ∃ o, o = Mo.out u s (Mo.pn l) l.length := ⟨_, rfl⟩
  obtain ⟨p, hp⟩ : ∃ p, p = Mo.pn l := ⟨_, rfl⟩
  rw [← ho, ← hn1] at C
  rw [← hn1] at h hn HS HZ HF ⊢
  rw [← hp] at HZ HS HF
  rw [← hp, ← hn1] at ho
  have HO := Lib.hid ho
  have HTO : Hid (Mo.sum n o = u) := Lib.hid (by rw [ho]; exact HF.out.total)
  clear hz hok hs hn1 ho hp HR HPN
  go_enter Tryz.func8, Tryz.ntmps8
  go_wp2_with fail
  refine H.out.mono ?_
  rintro e w1 ⟨rfl, hb⟩
  go_wp2_with fail
  refine (C.out _ hb).mono ?_
  rintro e w2 ⟨g, rfl, hzo, hb2⟩
  have HB := Lib.hid (Mo.Nb hb hb2)
  have HZ1 := Lib.hid (HZ.out _ HB.out)
  have HZ2 := Lib.hid hzo
  clear hb hb2 hzo H C HZ
  go_wp2_with fail
  go_loop [8, 9, 10] (fun a b i => ∃ k x y : Nat, k ≤ n ∧ a = .int .i64 (x : Int) ∧ b = .int .i64 (y : Int) ∧ i = .int .i64 (k : Int) ∧ x ≤ 1000000 * k ∧ y ≤ u ∧ Hid (x = Mo.sum k p) ∧ Hid (y = Mo.sum k o)) (fun _ _ i => n - (intOf i).toNat)
  case atStart => exact ⟨0, 0, 0, Nat.zero_le _, rfl, rfl, rfl, Nat.le_refl _, Nat.zero_le _, Lib.hid rfl, Lib.hid rfl⟩
  case round =>
    obtain ⟨k, x, y, hk, rfl, rfl, rfl, hx, hy, HX, HY⟩ := hrel
    by_cases hlt : k < n
    · have hlti : (k : Int) < (n : Int) := by omega
      obtain ⟨ad, rfl, hc, hq⟩ := HZ1.out k hlt
      have hc' := Mo.zs_get HZ2.out hlt
      have HX2 : Hid (x + p k = Mo.sum (k + 1) p) := Lib.hid (by rw [Mo.sum_succ, HX.out])
      have HY2 : Hid (y + o k = Mo.sum (k + 1) o) := Lib.hid (by rw [Mo.sum_succ, HY.out])
      have hr : y + o k ≤ u := by
        rw [HY2.out, ← HTO.out]
        exact Mo.sum_mono o (by omega)
      generalize p k = q at *
      generalize o k = r at *
      clear HX HY
      go_wp2
      go_round
      case rel => exact ⟨k + 1, x + q, y + r, by omega, by go_num, by go_num, by go_num, by omega, by omega, HX2, HY2⟩
      case measure => simp [intOf]; omega
    · have hlti : ¬ (k : Int) < (n : Int) := by omega
      have hkn : k = n := by omega
      have e1 : x = s := by rw [HX.out, hkn, HS.out]
      have e2 : y = u := by rw [HY.out, hkn, HTO.out]
      subst e1 e2
      clear hkn HX HY hx hy
      go_wp2
      go_loopw [11] (fun i wr => ∃ k q : Nat, k ≤ n ∧ i = .int .i64 (k : Int) ∧ wr = w2.drewN q) (fun i _ => n - (intOf i).toNat)
      case atStart => exact ⟨0, 0, Nat.zero_le _, rfl, rfl⟩
      case round =>
        obtain ⟨k, q0, hk, rfl, rfl⟩ := hrel
        by_cases hlt : k < n
        · have hlti : (k : Int) < (n : Int) := by omega
          obtain ⟨ad, rfl, hc, hq⟩ := HZ1.out k hlt
          have hc' := Mo.zs_get HZ2.out hlt
          have HSH := Lib.hid (HF.out.share k)
          have HZE := Lib.hid (fun h0 => HF.out.zero (i := k) h0)
          rw [← HO.out] at HSH HZE
          have HMO : Hid (∀ j, j < n → p j < p k → o j ≤ o k) := Lib.hid (fun j hj h1 => by
            have := HF.out.mono hlt hj h1
            rwa [← HO.out] at this)
          obtain ⟨m, hm⟩ : ∃ m, m = y * p k := ⟨_, rfl⟩
          obtain ⟨z, hz⟩ : ∃ z, z = o k * x := ⟨_, rfl⟩
          have hm2 : m ≤ 1000000000000000000 := by rw [hm]; exact Mo.lim y (p k) hu hq
          rw [← hm, ← hz] at HSH
          obtain ⟨g1, g2⟩ := HSH.out
          have HM : Hid (wrap64 ((y : Int) * (p k : Int)) = (m : Int)) := Lib.hid (by
            rw [← Int.natCast_mul, ← hm]
            exact Mo.w64 m hm2)
          have HM' : Hid (wrap64 ((o k : Int) * (x : Int)) = (z : Int)) := Lib.hid (by
            rw [← Int.natCast_mul, ← hz]
            exact IntWalk.wrap64_in _ (by omega))
          obtain ⟨pk, hpk⟩ : ∃ pk, pk = p k := ⟨_, rfl⟩
          obtain ⟨ok, hok⟩ : ∃ ok, ok = o k := ⟨_, rfl⟩
          rw [← hpk] at HM hc HZE HMO
          rw [← hok] at HM' hc' HZE HMO
          have HZ0 : Hid (pk = 0 → ok = 0) := Lib.hid HZE.out
          have t1 : decide ((m : Int) + (x : Int) - 1 < (z : Int)) = false := by simp; omega
          have t2 : decide ((z : Int) < (m : Int) - (x : Int) + 1) = false := by simp; omega
          have HT := Lib.hid (And.intro t1 t2)
          clear t1 t2 hm hz HSH g1 g2 HZE hq hpk hok
          go_upto_region 19 with fail
          rw [HM.out]
          by_cases hp0 : pk = 0
          · have hb1 : ((pk : Int) == 0) = true := by simp [hp0]
            have hb2 : ((ok : Int) != 0) = false := by simp [HZ0.out hp0]
            have e2 := HM'.out
            obtain ⟨t1, t2⟩ := HT.out
            clear hp0 HM HM'
            go_wp2
            clear e2 t1 t2 hb1 hb2
            go_loopw [13] (fun i wr => ∃ j q1 : Nat, j ≤ n ∧ i = .int .i64 (j : Int) ∧ wr = w2.drewN q1) (fun i _ => n - (intOf i).toNat)
            case atStart => exact ⟨0, q0, Nat.zero_le _, rfl, rfl⟩
            case round =>
              obtain ⟨j, q1, hj, rfl, rfl⟩ := hrel
              by_cases hjt : j < n
              · have hjti : (j : Int) < (n : Int) := by omega
                obtain ⟨ad, e', hcj, _⟩ := HZ1.out j hjt
                cases e'
                have hoj := Mo.zs_get HZ2.out hjt
                have HMj := Lib.hid (HMO.out j hjt)
                obtain ⟨pj, hpj⟩ : ∃ pj, pj = p j := ⟨_, rfl⟩
                obtain ⟨oj, hoj'⟩ : ∃ oj, oj = o j := ⟨_, rfl⟩
                rw [← hpj] at hcj HMj
                rw [← hoj'] at hoj HMj
                clear hpj hoj'
                by_cases hlt2 : pj < pk
                · have hi1 : (pj : Int) < (pk : Int) := by omega
                  have hi2 : ¬ (ok : Int) < (oj : Int) := by have := HMj.out hlt2; omega
                  clear HMj hlt2
                  go_wp2
                  go_quiet (fail)
                  go_wp2
                  exact ⟨⟨j + 1, q1 + nq, by omega, by go_num, by first | rfl | rw [World.drewN_drewN]⟩, by simp [intOf]; omega⟩
                · have HI : Hid (decide ((pj : Int) < (pk : Int)) = false) := Lib.hid (by simp; omega)
                  have HJ : Hid (decide (pj < pk) = false) := Lib.hid (by simp; omega)
                  clear HMj hlt2
                  go_wp2
                  have hj := HJ.out
                  go_quiet (fail)
                  go_wp2
                  exact ⟨⟨j + 1, q1 + nq, by omega, by go_num, by first | rfl | rw [World.drewN_drewN]⟩, by simp [intOf]; omega⟩
              · have hjti : ¬ (j : Int) < (n : Int) := by omega
                have hjn : j = n := by omega
                clear hjn
                go_wp2
                exact ⟨⟨k + 1, q1, by omega, by go_num, rfl⟩, by simp [intOf]; omega⟩
          · have hb1 : ((pk : Int) == 0) = false := by simp [hp0]
            have e2 := HM'.out
            obtain ⟨t1, t2⟩ := HT.out
            clear hp0 HM HM'
            go_wp2
            clear e2 t1 t2 hb1
            go_loopw [13] (fun i wr => ∃ j q1 : Nat, j ≤ n ∧ i = .int .i64 (j : Int) ∧ wr = w2.drewN q1) (fun i _ => n - (intOf i).toNat)
            case atStart => exact ⟨0, q0, Nat.zero_le _, rfl, rfl⟩
            case round =>
              obtain ⟨j, q1, hj, rfl, rfl⟩ := hrel
              by_cases hjt : j < n
              · have hjti : (j : Int) < (n : Int) := by omega
                obtain ⟨ad, e', hcj, _⟩ := HZ1.out j hjt
                cases e'
                have hoj := Mo.zs_get HZ2.out hjt
                have HMj := Lib.hid (HMO.out j hjt)
                obtain ⟨pj, hpj⟩ : ∃ pj, pj = p j := ⟨_, rfl⟩
                obtain ⟨oj, hoj'⟩ : ∃ oj, oj = o j := ⟨_, rfl⟩
                rw [← hpj] at hcj HMj
                rw [← hoj'] at hoj HMj
                clear hpj hoj'
                by_cases hlt2 : pj < pk
                · have hi1 : (pj : Int) < (pk : Int) := by omega
                  have hi2 : ¬ (ok : Int) < (oj : Int) := by have := HMj.out hlt2; omega
                  clear HMj hlt2
                  go_wp2
                  go_quiet (fail)
                  go_wp2
                  exact ⟨⟨j + 1, q1 + nq, by omega, by go_num, by first | rfl | rw [World.drewN_drewN]⟩, by simp [intOf]; omega⟩
                · have HI : Hid (decide ((pj : Int) < (pk : Int)) = false) := Lib.hid (by simp; omega)
                  have HJ : Hid (decide (pj < pk) = false) := Lib.hid (by simp; omega)
                  clear HMj hlt2
                  go_wp2
                  have hj := HJ.out
                  go_quiet (fail)
                  go_wp2
                  exact ⟨⟨j + 1, q1 + nq, by omega, by go_num, by first | rfl | rw [World.drewN_drewN]⟩, by simp [intOf]; omega⟩
              · have hjti : ¬ (j : Int) < (n : Int) := by omega
                have hjn : j = n := by omega
                clear hjn
                go_wp2
                exact ⟨⟨k + 1, q1, by omega, by go_num, rfl⟩, by simp [intOf]; omega⟩
        · have hlti : ¬ (k : Int) < (n : Int) := by omega
          clear HF HO HTO
          go_wp2
          go_ret
          exact ⟨rfl, Mo.dn HB.out _⟩

theorem splits_walk (u : Int) (A : Option Addr) (c : Nat) (l : List Int) (w : World) (hP : Mo.Pa w.heap.size w) (hu : (Go.Lit.int .i64 u).wf = true) (hz : Mo.Zs w w.heap.size A l) (hm : l.length ≤ maxLen) :
    Calls Tryz.prog 8 #[.int .i64 u, .slice A l.length c] w fun e w' => e = .returned (.bool true) ∧ Below w.heap.size w w' := by
  have H := Lib.hid (Mo.head_any w hP.pm)
  by_cases h : (30 : Int) < (l.length : Int)
  · exact Mo.sp_len A c l u w H h
  · by_cases hb : Mo.okP l = false ∨ u < 0 ∨ 1000000000000 < u
    · exact Mo.sp_bad A c l u w H h (Lib.hid fun v hv => Mo.split_bad u A c l v (hz.bt hv) hm hb)
    · have h1 : Mo.okP l = true := by
        cases e : Mo.okP l with
        | true => rfl
        | false => exact absurd (.inl e) hb
      obtain ⟨n, rfl⟩ : ∃ n : Nat, u = (n : Int) := ⟨u.toNat, by omega⟩
      exact Mo.sp_ok A c l n w H h hz h1 (by omega)
end Go.Proofs.YtkbncdcphohmiaaGreatDoor
