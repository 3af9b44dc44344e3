/- The reference's Local and Instant (layer 6). -/
import Derived.Test.YtkkgefefbamcpaaDoorClRa
set_option linter.unusedSimpArgs false
set_option linter.unusedVariables false
namespace Go.Proofs.YtkkgefefbamcpaaDoor
open Go.RowKit
set_option maxRecDepth 100000

set_option maxHeartbeats 1000000 in
theorem rlocal_any (A : Option Addr) (c : Nat) (zs : List Cl.Sh) (t : Int) (w : World) (hz : Zn w w.heap.size A zs) :
    Calls Tryd.prog 14 #[.agg #[.slice A zs.length c], .int .i64 t] w fun e w' => e = .returned (.tuple #[.int .i64 (Cl.locF zs t).1, .int .i64 (Cl.locF zs t).2.1, .int .i64 (Cl.locF zs t).2.2]) ∧ Below w.heap.size w w' := by
  have hb0 := Cl.al w (.cells #[.slice A zs.length c] 24)
  have HV := Lib.hid (rvalid_any A c zs _ (hz.bt hb0))
  have HI := Lib.hid (fun v => Cl.ris_any t v)
  cases hv : Cl.vz zs
  · have he : Cl.locF zs t = (0, 0, 1) := by unfold Cl.locF; rw [hv]; rfl
    rw [he]
    rw [hv] at HV
    clear hv he hz
    go_enter Tryd.func14, Tryd.ntmps14
    go_wp2_with fail
    refine HV.out.mono ?_
    rintro e w1 ⟨rfl, hb1⟩
    have hb := Cl.Nb hb0 hb1
    clear hb0 hb1
    go_wp2_with fail
    go_ret3
    exact ⟨rfl, hb⟩
  · rw [hv] at HV
    cases hi : Cl.isI t
    · have he : Cl.locF zs t = (0, 0, 1) := by unfold Cl.locF; rw [hi, Bool.and_false]; rfl
      rw [he]
      rw [hi] at HI
      clear hv he hz hi
      go_enter Tryd.func14, Tryd.ntmps14
      go_wp2_with fail
      refine HV.out.mono ?_
      rintro e w1 ⟨rfl, hb1⟩
      have hb := Cl.Nb hb0 hb1
      clear hb0 hb1
      go_wp2_with fail
      refine (HI.out _).mono ?_
      rintro e w2 ⟨rfl, rfl⟩
      go_wp2_with fail
      go_ret3
      exact ⟨rfl, hb⟩
    · rw [hi] at HI
      have g := Cl.good_of zs hv
      have hlb := Cl.loc_bound g t
      have he : Cl.locF zs t = ((Cl.loc zs t + 1440) / 1440 - 1, (Cl.loc zs t + 1440) % 1440, 0) := by unfold Cl.locF; rw [hv, hi]; rfl
      have ht : 0 ≤ t ∧ t ≤ 144001439 := by
        unfold Cl.isI at hi
        simpa using hi
      have HO := Lib.hid (fun v (h : Below w.heap.size w v) => roffset_any A c zs t v g.few (hz.bt h))
      have he2 : Cl.offW 0 (Cl.sp zs) t = Cl.loc zs t - t := by unfold Cl.loc; omega
      rw [he]
      rw [he2] at HO
      have BZ := Lib.hid (Boxed.new w 24 (.slice A zs.length c))
      clear hv he hz hi he2 g
      generalize Cl.loc zs t = L at *
      obtain ⟨o, rfl⟩ : ∃ o, L = t + o := ⟨L - t, by omega⟩
      rw [show t + o - t = o by omega] at HO
      obtain ⟨ht0, ht1⟩ := ht
      have ho : -840 ≤ o ∧ o ≤ 840 := by omega
      obtain ⟨ho0, ho1⟩ := ho
      clear hlb
      go_enter Tryd.func14, Tryd.ntmps14
      go_wp2_with fail
      refine HV.out.mono ?_
      rintro e w1 ⟨rfl, hb1⟩
      have hb := Cl.Nb hb0 hb1
      have hc1 := Cl.cell_bt BZ.out.cell hb1
      clear hb0 hb1
      go_wp2_with fail
      refine (HI.out _).mono ?_
      rintro e w2 ⟨rfl, rfl⟩
      go_wp2_with fail
      refine (HO.out _ hb).mono ?_
      rintro e w3 ⟨rfl, hb3⟩
      have hb' := Cl.Nb hb hb3
      clear hb hb3 hc1
      go_wp2_with fail
      go_ret3
      exact ⟨rfl, hb'⟩

theorem Cl.inst_high {zs : List Cl.Sh} (g : Cl.Good zs) {q : Int} (h : 144002280 ≤ q) : Cl.inst (Cl.sp zs) q = none := by
  cases h2 : Cl.inst (Cl.sp zs) q with
  | none => rfl
  | some t =>
    obtain ⟨a1, a2, a3, a4⟩ := Cl.inst_some g h2
    have := Cl.loc_bound g t
    unfold Cl.M1 at a2
    omega
theorem Cl.inst_low {zs : List Cl.Sh} (g : Cl.Good zs) {q : Int} (h : q ≤ -840) : Cl.inst (Cl.sp zs) q = some 0 := by
  have := Cl.loc_bound g 0
  exact Cl.inst_eq g (Int.le_refl 0) (by unfold Cl.M1; omega) (by omega) (fun u h0 h1 => by omega)
theorem Cl.inst_step {zs : List Cl.Sh} {k : Nat} (hk : k < zs.length) (q : Int) : Cl.inst ((Cl.sp zs).drop k) q =
    if max (zs.getD k (0, 0)).1 (q - (zs.getD k (0, 0)).2) < (if k + 1 < zs.length then (zs.getD (k + 1) (0, 0)).1 else 144001440) then some (max (zs.getD k (0, 0)).1 (q - (zs.getD k (0, 0)).2)) else Cl.inst ((Cl.sp zs).drop (k + 1)) q := by
  have hl := Cl.sp_length zs
  have e := Cl.sp_at hk
  rw [List.getElem?_eq_getElem (by omega)] at e
  have hd := List.drop_eq_getElem_cons (l := Cl.sp zs) (i := k) (by omega)
  rw [Option.some.inj e] at hd
  rw [hd]
  rfl

set_option maxHeartbeats 1000000 in
theorem rinstant_bad (A : Option Addr) (c : Nat) (zs : List Cl.Sh) (d m : Int) (w : World) (hz : Zn w w.heap.size A zs) (h : ¬ (Cl.vz zs && (decide (0 ≤ m) && decide (m < 1440))) = true) :
    Calls Tryd.prog 16 #[.agg #[.slice A zs.length c], .int .i64 d, .int .i64 m] w fun e w' => e = .returned (.tuple #[.int .i64 0, .int .i64 1]) ∧ Below w.heap.size w w' := by
  have hb0 := Cl.al w (.cells #[.slice A zs.length c] 24)
  have HV := Lib.hid (rvalid_any A c zs _ (hz.bt hb0))
  clear hz
  cases hv : Cl.vz zs
  · rw [hv] at HV
    clear hv h
    go_enter Tryd.func16, Tryd.ntmps16
    go_wp2_with fail
    refine HV.out.mono ?_
    rintro e w1 ⟨rfl, hb1⟩
    have hb := Cl.Nb hb0 hb1
    clear hb1 hb0
    go_wp2_with fail
    go_ret2
    exact ⟨rfl, hb⟩
  · rw [hv] at HV
    rw [hv, Bool.true_and] at h
    by_cases h0 : 0 ≤ m
    · have h1 : 1440 ≤ m := by
        rw [decide_eq_true h0, Bool.true_and, decide_eq_true_eq] at h
        omega
      have g0 : decide (m < 0) = false := decide_eq_false (by omega)
      have g1 : decide (1439 < m) = true := decide_eq_true (by omega)
      clear hv h h0 h1
      go_enter Tryd.func16, Tryd.ntmps16
      go_wp2_with fail
      refine HV.out.mono ?_
      rintro e w1 ⟨rfl, hb1⟩
      have hb := Cl.Nb hb0 hb1
      clear hb1 hb0
      go_wp2_with fail
      go_ret2
      exact ⟨rfl, hb⟩
    · have g0 : decide (m < 0) = true := decide_eq_true (by omega)
      clear hv h h0
      go_enter Tryd.func16, Tryd.ntmps16
      go_wp2_with fail
      refine HV.out.mono ?_
      rintro e w1 ⟨rfl, hb1⟩
      have hb := Cl.Nb hb0 hb1
      clear hb1 hb0
      go_wp2_with fail
      go_ret2
      exact ⟨rfl, hb⟩

set_option maxHeartbeats 4000000 in
theorem rinstant_high (A : Option Addr) (c : Nat) (zs : List Cl.Sh) (d m : Int) (w : World) (hz : Zn w w.heap.size A zs) (hv : Cl.vz zs = true) (hm0 : 0 ≤ m) (hm1 : m < 1440) (hd : 100001 < d) :
    Calls Tryd.prog 16 #[.agg #[.slice A zs.length c], .int .i64 d, .int .i64 m] w fun e w' => e = .returned (.tuple #[.int .i64 0, .int .i64 10]) ∧ Below w.heap.size w w' := by
  have hb0 := Cl.al w (.cells #[.slice A zs.length c] 24)
  have HV := Lib.hid (rvalid_any A c zs _ (hz.bt hb0))
  rw [hv] at HV
  have g := Cl.good_of zs hv
  have g0 : decide (m < 0) = false := decide_eq_false (by omega)
  have g1 : decide (1439 < m) = false := decide_eq_false (by omega)
  have g2 : decide (100001 < d) = true := decide_eq_true hd
  clear hz hv hd
  go_enter Tryd.func16, Tryd.ntmps16
  go_wp2_with fail
  refine HV.out.mono ?_
  rintro e w1 ⟨rfl, hb1⟩
  have hb := Cl.Nb hb0 hb1
  clear hb1 hb0
  go_wp2_with fail
  go_ret2
  exact ⟨rfl, hb⟩

set_option maxHeartbeats 4000000 in
theorem rinstant_low (A : Option Addr) (c : Nat) (zs : List Cl.Sh) (d m : Int) (w : World) (hz : Zn w w.heap.size A zs) (hv : Cl.vz zs = true) (hm0 : 0 ≤ m) (hm1 : m < 1440) (hd : d < -1) :
    Calls Tryd.prog 16 #[.agg #[.slice A zs.length c], .int .i64 d, .int .i64 m] w fun e w' => e = .returned (.tuple #[.int .i64 0, .int .i64 0]) ∧ Below w.heap.size w w' := by
  have hb0 := Cl.al w (.cells #[.slice A zs.length c] 24)
  have HV := Lib.hid (rvalid_any A c zs _ (hz.bt hb0))
  rw [hv] at HV
  have g := Cl.good_of zs hv
  have g0 : decide (m < 0) = false := decide_eq_false (by omega)
  have g1 : decide (1439 < m) = false := decide_eq_false (by omega)
  have g2 : decide (100001 < d) = false := decide_eq_false (by omega)
  have g3 : decide (d < -1) = true := decide_eq_true hd
  clear hz hv hd
  go_enter Tryd.func16, Tryd.ntmps16
  go_wp2_with fail
  refine HV.out.mono ?_
  rintro e w1 ⟨rfl, hb1⟩
  have hb := Cl.Nb hb0 hb1
  clear hb1 hb0
  go_wp2_with fail
  go_ret2
  exact ⟨rfl, hb⟩

set_option maxHeartbeats 4000000 in
theorem rinstant_mid (A : Option Addr) (c : Nat) (zs : List Cl.Sh) (d m : Int) (w : World) (hz : Zn w w.heap.size A zs) (hv : Cl.vz zs = true) (hm0 : 0 ≤ m) (hm1 : m < 1440) (hd0 : -1 ≤ d) (hd1 : d ≤ 100001) (e : Int × Int) (he : ∀ r, Cl.inst (Cl.sp zs) (d * 1440 + m) = r → e = Cl.ofI r) :
    Calls Tryd.prog 16 #[.agg #[.slice A zs.length c], .int .i64 d, .int .i64 m] w fun en w' => en = .returned (.tuple #[.int .i64 e.1, .int .i64 e.2]) ∧ Below w.heap.size w w' := by
  have hb0 := Cl.al w (.cells #[.slice A zs.length c] 24)
  have HV := Lib.hid (rvalid_any A c zs _ (hz.bt hb0))
  rw [hv] at HV
  have g := Cl.good_of zs hv
  have g0 : decide (m < 0) = false := decide_eq_false (by omega)
  have g1 : decide (1439 < m) = false := decide_eq_false (by omega)
  have g2 : decide (100001 < d) = false := decide_eq_false (by omega)
  have g3 : decide (d < -1) = false := decide_eq_false (by omega)
  have hc0 := (Boxed.new w 24 (.slice A zs.length c)).cell
  have HZ := Lib.hid (fun v (h : Below w.heap.size w v) => hz.bt h)
  obtain ⟨res, hres⟩ : ∃ res, res = Cl.inst (Cl.sp zs) (d * 1440 + m) := ⟨_, rfl⟩
  have HRS := Lib.hid hres
  have HR : Hid (∀ t, res = some t → e = (t, 0)) := Lib.hid (fun t ht => he _ (hres.symm.trans ht))
  have HR0 : Hid (res = none → e = (0, 10)) := Lib.hid (fun ht => he _ (hres.symm.trans ht))
  have OFF := Lib.hid (fun k hk => Cl.off_in g (k := k) hk)
  have hfew := g.few
  have FR := Lib.hid (fun k h1 hk => Cl.from_in g (k := k) h1 hk)
  have F0 := Lib.hid (show (zs.getD 0 (0, 0)).1 = 0 by
    obtain ⟨e0, h0⟩ := Cl.sp_drop (zs := zs) (k := 0) (by have := g.one; omega)
    rw [List.drop_zero] at h0
    have hc := g.ch
    rw [h0] at hc
    exact hc.1)
  clear hz hv g hres he
  go_enter Tryd.func16, Tryd.ntmps16
  go_wp2_with fail
  refine HV.out.mono ?_
  rintro e' w1 ⟨rfl, hb1⟩
  have hb := Cl.Nb hb0 hb1
  have hc := Cl.cell_bt hc0 hb1
  clear hb1 hb0 hc0 HV
  go_wp2_with fail
  clear g0 g1 g2 g3
  go_loopw [9, 10, 11] (fun i _ _ wr => ∃ k : Nat, k ≤ zs.length ∧ i = .int .i64 (k : Int) ∧ Hid (Cl.inst ((Cl.sp zs).drop k) (d * 1440 + m) = res) ∧ wr.cell? ⟨w.heap.size, 0, none⟩ = some (.slice A zs.length c) ∧ Below w.heap.size w wr) (fun i _ _ _ => zs.length - (intOf i).toNat)
  case atStart => exact ⟨0, by omega, rfl, Lib.hid HRS.out.symm, hc, hb⟩
  case round =>
    clear hc hb
    obtain ⟨k, hk, rfl, HK, hc, hb⟩ := hrel
    by_cases hlt : k < zs.length
    · obtain ⟨ad', e', y1, y2, _, _⟩ := (HZ.out wr hb).at hlt
      have HS := Lib.hid (Cl.inst_step hlt (d * 1440 + m))
      have hoff := OFF.out k hlt
      have hfr : 0 ≤ (zs.getD k (0, 0)).1 ∧ (zs.getD k (0, 0)).1 ≤ 144001439 := by
        rcases Nat.eq_zero_or_pos k with rfl | hp
        · rw [F0.out]
          omega
        · have := FR.out k hp hlt
          omega
      obtain ⟨f, hf⟩ : ∃ f, f = (zs.getD k (0, 0)).1 := ⟨_, rfl⟩
      obtain ⟨q, hq⟩ : ∃ q, q = (zs.getD k (0, 0)).2 := ⟨_, rfl⟩
      rw [← hf] at y1 HS hfr
      rw [← hq] at y2 HS hoff
      obtain ⟨o1, o2⟩ := hoff
      obtain ⟨r1, r2⟩ := hfr
      clear hf hq
      by_cases hl2 : k + 1 < zs.length
      · obtain ⟨ad2, e2, x1, x2, _, _⟩ := (HZ.out wr hb).at hl2
        have hfr2 := FR.out (k + 1) (by omega) hl2
        obtain ⟨en, hen⟩ : ∃ en, en = (zs.getD (k + 1) (0, 0)).1 := ⟨_, rfl⟩
        rw [if_pos hl2, ← hen] at HS
        rw [← hen] at x1 hfr2
        obtain ⟨r3, r4⟩ := hfr2
        subst e'
        cases e2
        clear hen x2
        by_cases hm : d * 1440 + m - q < f
        · by_cases hle : f ≤ en - 1
          · have HF : Hid (e = (f, 0)) := Lib.hid (HR.out _ (HK.out.symm.trans (by rw [HS.out, Int.max_eq_left (by omega), if_pos (by omega)])))
            go_wp2_with fail
            go_ret2
            exact ⟨by rw [HF.out]; rfl, hb⟩
          · have HN : Hid (Cl.inst ((Cl.sp zs).drop (k + 1)) (d * 1440 + m) = res) := Lib.hid (by rw [← HK.out, HS.out, Int.max_eq_left (by omega), if_neg (by omega)])
            go_wp2_with fail
            go_roundw
            case rel => exact ⟨k + 1, by omega, by go_num, HN, hc, hb⟩
            case measure => simp [intOf]; omega
        · by_cases hle : d * 1440 + m - q ≤ en - 1
          · have HF : Hid (e = (d * 1440 + m - q, 0)) := Lib.hid (HR.out _ (HK.out.symm.trans (by rw [HS.out, Int.max_eq_right (by omega), if_pos (by omega)])))
            go_wp2_with fail
            go_ret2
            exact ⟨by rw [HF.out]; rfl, hb⟩
          · have HN : Hid (Cl.inst ((Cl.sp zs).drop (k + 1)) (d * 1440 + m) = res) := Lib.hid (by rw [← HK.out, HS.out, Int.max_eq_right (by omega), if_neg (by omega)])
            go_wp2_with fail
            go_roundw
            case rel => exact ⟨k + 1, by omega, by go_num, HN, hc, hb⟩
            case measure => simp [intOf]; omega
      · rw [if_neg hl2] at HS
        subst e'
        by_cases hm : d * 1440 + m - q < f
        · by_cases hle : f ≤ 144001439
          · have HF : Hid (e = (f, 0)) := Lib.hid (HR.out _ (HK.out.symm.trans (by rw [HS.out, Int.max_eq_left (by omega), if_pos (by omega)])))
            go_wp2_with fail
            go_ret2
            exact ⟨by rw [HF.out]; rfl, hb⟩
          · exfalso
            omega
        · by_cases hle : d * 1440 + m - q ≤ 144001439
          · have HF : Hid (e = (d * 1440 + m - q, 0)) := Lib.hid (HR.out _ (HK.out.symm.trans (by rw [HS.out, Int.max_eq_right (by omega), if_pos (by omega)])))
            go_wp2_with fail
            go_ret2
            exact ⟨by rw [HF.out]; rfl, hb⟩
          · have HN : Hid (Cl.inst ((Cl.sp zs).drop (k + 1)) (d * 1440 + m) = res) := Lib.hid (by rw [← HK.out, HS.out, Int.max_eq_right (by omega), if_neg (by omega)])
            go_wp2_with fail
            go_roundw
            case rel => exact ⟨k + 1, by omega, by go_num, HN, hc, hb⟩
            case measure => simp [intOf]; omega
    · have HF : Hid (e = (0, 10)) := Lib.hid (HR0.out (by
        rw [← HK.out, List.drop_eq_nil_of_le (by rw [Cl.sp_length]; omega)]
        rfl))
      go_wp2_with fail
      go_ret2
      exact ⟨by rw [HF.out]; rfl, hb⟩

theorem rinstant_any (A : Option Addr) (c : Nat) (zs : List Cl.Sh) (d m : Int) (w : World) (hz : Zn w w.heap.size A zs) :
    Calls Tryd.prog 16 #[.agg #[.slice A zs.length c], .int .i64 d, .int .i64 m] w fun e w' => e = .returned (.tuple #[.int .i64 (Cl.instF zs d m).1, .int .i64 (Cl.instF zs d m).2]) ∧ Below w.heap.size w w' := by
  by_cases h : (Cl.vz zs && (decide (0 ≤ m) && decide (m < 1440))) = true
  · have h' := h
    simp only [Bool.and_eq_true, decide_eq_true_eq] at h'
    obtain ⟨hv, h0, h1⟩ := h'
    have g := Cl.good_of zs hv
    have hi := Cl.instF_ok (d := d) hv h0 h1
    by_cases k1 : 100001 < d
    · rw [Cl.inst_high g (by unfold Cl.want Cl.clamp; omega)] at hi
      rw [hi]
      exact rinstant_high A c zs d m w hz hv h0 h1 k1
    · by_cases k2 : d < -1
      · rw [Cl.inst_low g (by unfold Cl.want Cl.clamp; omega)] at hi
        rw [hi]
        exact rinstant_low A c zs d m w hz hv h0 h1 k2
      · rw [Cl.want_in (by omega) (by omega)] at hi
        exact rinstant_mid A c zs d m w hz hv h0 h1 (by omega) (by omega) _ (fun r hr => by rw [hi, hr])
  · have he : Cl.instF zs d m = (0, 1) := by unfold Cl.instF; rw [if_neg h]
    rw [he]
    exact rinstant_bad A c zs d m w hz h
end Go.Proofs.YtkkgefefbamcpaaDoor
