/- ClockBack: the walk (layer 6). -/
import Derived.Test.YtkkgefefbamcpaaDoorClHd
set_option linter.unusedSimpArgs false
set_option linter.unusedVariables false
namespace Go.Proofs.YtkkgefefbamcpaaDoor
open Go.RowKit
set_option maxRecDepth 100000

/-- No shift has a lesser offset than the one before. -/
def Cl.Mono (zs : List Cl.Sh) (n : Nat) : Prop := ∀ k, k < n → (zs.getD k (0, 0)).2 ≤ (zs.getD (k + 1) (0, 0)).2
theorem Cl.offW_ge : ∀ (l : List Cl.Sp) (m o t : Int), (∀ z ∈ l, m ≤ z.2.1) → m ≤ o → m ≤ Cl.offW o l t
  | [], _, _, _, _, h => h
  | x :: r, m, o, t, h, ho => by
    show m ≤ Cl.offW (if x.1 ≤ t then x.2.1 else o) r t
    refine Cl.offW_ge r m _ t (fun z hz => h z (List.mem_cons_of_mem _ hz)) ?_
    split
    · exact h x (List.mem_cons_self ..)
    · exact ho
theorem Cl.offW_inc : ∀ (l : List Cl.Sp) (f o u t : Int), Cl.Ch f l → l.Pairwise (fun x y => x.2.1 ≤ y.2.1) → f ≤ u → u ≤ t → Cl.offW o l u ≤ Cl.offW o l t
  | [], _, _, _, _, _, _, _, _ => Int.le_refl _
  | x :: r, f, o, u, t, h, hp, h1, h2 => by
    rw [Cl.offW_in x r f o u h h1, Cl.offW_in x r f o t h (by omega)]
    have hp' := List.pairwise_cons.1 hp
    by_cases hu : u < x.2.2
    · rw [Cl.offW_lt r _ _ u h.2.2 hu]
      exact Cl.offW_ge r _ _ t hp'.1 (Int.le_refl _)
    · exact Cl.offW_inc r x.2.2 _ u t h.2.2 hp'.2 (by omega) h2
theorem Cl.mono_le {zs : List Cl.Sh} {n : Nat} (h : Cl.Mono zs n) : ∀ (d i : Nat), i + d ≤ n → (zs.getD i (0, 0)).2 ≤ (zs.getD (i + d) (0, 0)).2
  | 0, _, _ => Int.le_refl _
  | d + 1, i, hd => Int.le_trans (Cl.mono_le h d i (by omega)) (h (i + d) (by omega))
theorem Cl.mono_pair {zs : List Cl.Sh} {n : Nat} (h : Cl.Mono zs n) (hn : zs.length ≤ n + 1) : (Cl.sp zs).Pairwise (fun x y => x.2.1 ≤ y.2.1) := by
  rw [List.pairwise_iff_getElem]
  intro i j hi hj hij
  have hl := Cl.sp_length zs
  have e1 := Cl.sp_get zs i (by omega)
  have e2 := Cl.sp_get zs j (by omega)
  rw [List.getElem?_eq_getElem hi] at e1
  rw [List.getElem?_eq_getElem hj] at e2
  rw [Option.some.inj e1, Option.some.inj e2]
  have := Cl.mono_le h (j - i) i (by omega)
  rw [show i + (j - i) = j by omega, List.getD_eq_getElem?_getD, List.getD_eq_getElem?_getD, List.getElem?_eq_getElem (by omega), List.getElem?_eq_getElem (by omega)] at this
  exact this
theorem Cl.back_fact {zs : List Cl.Sh} (hv : Cl.vz zs = true) {t : Int} (h0 : 0 ≤ t) (h1 : t < 144001440) :
    ∃ a b u, Cl.locF zs t = (a, b, 0) ∧ Cl.instF zs a b = (u, 0) ∧ u ≤ t ∧ (∀ n, zs.length ≤ n + 1 → Cl.Mono zs n → u = t) := by
  have g := Cl.good_of zs hv
  obtain ⟨l1, l2, l3, l4, l5, l6⟩ := Cl.locF_ok hv h0 h1
  have hi := Cl.instF_ok (d := (Cl.locF zs t).1) hv l2 l3
  rw [Cl.want_in (by omega) (by omega), show (Cl.locF zs t).1 * 1440 + (Cl.locF zs t).2.1 = Cl.loc zs t by omega] at hi
  cases h : Cl.inst (Cl.sp zs) (Cl.loc zs t) with
  | none =>
    have := Cl.inst_none g h t h0 h1
    omega
  | some u =>
    rw [h] at hi
    obtain ⟨a1, a2, a3, a4⟩ := Cl.inst_some g h
    refine ⟨(Cl.locF zs t).1, (Cl.locF zs t).2.1, u, Prod.ext rfl (Prod.ext rfl l1), hi, ?_, fun n hn hm => ?_⟩
    · by_cases hu : u ≤ t
      · exact hu
      · have := a4 t h0 (by omega)
        omega
    · by_cases hu : u < t
      · have := Cl.offW_inc (Cl.sp zs) 0 0 u t g.ch (Cl.mono_pair hm hn) a1 (by omega)
        unfold Cl.loc at a3
        omega
      · by_cases hu2 : t < u
        · have := a4 t h0 hu2
          omega
        · omega
theorem Cl.u32r {n : Int} (h : (Lit.int .u32 n).wf = true) : 0 ≤ n ∧ n < 4294967296 := by
  have : 0 ≤ n ∧ n ≤ 4294967295 := by simpa [Lit.wf, IntKind.min, IntKind.max, IntKind.signed, IntKind.bits] using h
  omega
/-- The cells of a shift, in a world and behind a draw. -/
theorem Zn.at {w : World} {B : Nat} {A : Option Addr} {zs : List Cl.Sh} (h : Zn w B A zs) {k : Nat} (hk : k < zs.length) : ∃ ad, A = some ad ∧
    w.cell? (ad.add (k * 2)) = some (.int .i64 (zs.getD k (0, 0)).1) ∧ w.cell? { block := (ad.add (k * 2)).block, off := (ad.add (k * 2)).off + 1 } = some (.int .i64 (zs.getD k (0, 0)).2) ∧
    w.drew.cell? (ad.add (k * 2)) = some (.int .i64 (zs.getD k (0, 0)).1) ∧ w.drew.cell? { block := (ad.add (k * 2)).block, off := (ad.add (k * 2)).off + 1 } = some (.int .i64 (zs.getD k (0, 0)).2) := by
  obtain ⟨ad, e, _, h1, h2⟩ := h k hk
  exact ⟨ad, e, h1, h2, h1, h2⟩

set_option maxHeartbeats 1000000 in
theorem back_no (A : Option Addr) (c : Nat) (zs : List Cl.Sh) (raw : Int) (w : World) (hp : PowC w.heap.size w) (hz : Zn w w.heap.size A zs) (h : (decide ((zs.length : Int) ≤ 40) && Cl.vz zs) = false) :
    Calls Tryd.prog 6 #[.agg #[.slice A zs.length c], .int .u32 raw] w fun e w' => e = .returned (.bool true) ∧ Below w.heap.size w w' := by
  have hb := Cl.al w (.cells #[.slice A zs.length c] 24)
  have hc := (Boxed.new w 24 (.slice A zs.length c)).cell
  have HH := Lib.hid (fun v (h : Below w.heap.size w v) => head_any v (hp.bt h))
  have FW := Lib.hid (fun v (_ : Below w.heap.size w v) => few_any A c zs.length 40 v)
  have HV := Lib.hid (fun v (h : Below w.heap.size w v) => valid_any A c zs v (hz.bt h))
  clear hp hz
  cases hf : decide ((zs.length : Int) ≤ 40)
  · rw [hf] at FW
    clear hf h HV
    go_enter Tryd.func6, Tryd.ntmps6
    go_wp2_with fail
    refine (HH.out _ hb).mono ?_
    rintro e v ⟨rfl, g⟩
    have hb' := Cl.Nb hb g
    have hc' := Cl.cell_bt hc g
    clear g hb hc
    have hb := hb'
    have hc := hc'
    clear hb' hc'
    go_wp2_with fail
    refine (FW.out _ hb).mono ?_
    rintro e v ⟨rfl, g⟩
    have hb' := Cl.Nb hb g
    have hc' := Cl.cell_bt hc g
    clear g hb hc
    have hb := hb'
    have hc := hc'
    clear hb' hc'
    go_wp2_with fail
    go_ret
    exact ⟨rfl, hb⟩
  · rw [hf] at FW h
    have hv : Cl.vz zs = false := by simpa using h
    rw [hv] at HV
    clear hf h hv
    go_enter Tryd.func6, Tryd.ntmps6
    go_wp2_with fail
    refine (HH.out _ hb).mono ?_
    rintro e v ⟨rfl, g⟩
    have hb' := Cl.Nb hb g
    have hc' := Cl.cell_bt hc g
    clear g hb hc
    have hb := hb'
    have hc := hc'
    clear hb' hc'
    go_wp2_with fail
    refine (FW.out _ hb).mono ?_
    rintro e v ⟨rfl, g⟩
    have hb' := Cl.Nb hb g
    have hc' := Cl.cell_bt hc g
    clear g hb hc
    have hb := hb'
    have hc := hc'
    clear hb' hc'
    go_wp2_with fail
    refine (HV.out _ hb).mono ?_
    rintro e v ⟨rfl, g⟩
    have hb' := Cl.Nb hb g
    have hc' := Cl.cell_bt hc g
    clear g hb hc
    have hb := hb'
    have hc := hc'
    clear hb' hc'
    go_wp2_with fail
    go_ret
    exact ⟨rfl, hb⟩

set_option maxHeartbeats 4000000 in
theorem back_yes (A : Option Addr) (c : Nat) (zs : List Cl.Sh) (raw : Int) (w : World) (hp : PowC w.heap.size w) (hz : Zn w w.heap.size A zs) (hv : Cl.vz zs = true) (hr0 : 0 ≤ raw) (hr1 : raw < 4294967296) :
    Calls Tryd.prog 6 #[.agg #[.slice A zs.length c], .int .u32 raw] w fun e w' => e = .returned (.bool true) ∧ Below w.heap.size w w' := by
  have hb := Cl.al w (.cells #[.slice A zs.length c] 24)
  have hc := (Boxed.new w 24 (.slice A zs.length c)).cell
  have HH := Lib.hid (fun v (h : Below w.heap.size w v) => head_any v (hp.bt h))
  have FW := Lib.hid (fun v (_ : Below w.heap.size w v) => few_any A c zs.length 40 v)
  have HV := Lib.hid (fun v (h : Below w.heap.size w v) => valid_any A c zs v (hz.bt h))
  have g := Cl.good_of zs hv
  have hfew := g.few
  rw [decide_eq_true (show (zs.length : Int) ≤ 40 by omega)] at FW
  rw [hv] at HV
  have HZ := Lib.hid (fun v (h : Below w.heap.size w v) => hz.bt h)
  have ht0 : 0 ≤ raw % 144001440 := by omega
  have ht1 : raw % 144001440 < 144001440 := by omega
  obtain ⟨a, b, u, h1, h2, hle, hmono⟩ := Cl.back_fact hv ht0 ht1
  have LT : Hid (∀ v, Below w.heap.size w v → Calls Tryd.prog 13 #[.agg #[.slice A zs.length c], .int .i64 (raw % 144001440)] v fun e w' => e = .returned (.tuple #[.int .i64 a, .int .i64 b, .int .i64 0]) ∧ Below v.heap.size v w') := Lib.hid (fun v h => by
    have := local_any A c zs (raw % 144001440) v (hz.bt h)
    rw [h1] at this
    exact this)
  have IN : Hid (∀ v, Below w.heap.size w v → Calls Tryd.prog 15 #[.agg #[.slice A zs.length c], .int .i64 a, .int .i64 b] v fun e w' => e = .returned (.tuple #[.int .i64 u, .int .i64 0]) ∧ Below v.heap.size v w') := Lib.hid (fun v h => by
    have := instant_any A c zs a b v (hz.bt h)
    rw [h2] at this
    exact this)
  have HM := Lib.hid hmono
  have hle' : decide (raw % 144001440 < u) = false := decide_eq_false (by omega)
  have h1n : 1 ≤ zs.length := g.one
  clear h1 h2 hle hmono g hv hp hz ht0 ht1
  go_enter Tryd.func6, Tryd.ntmps6
  go_wp2_with fail
  refine (HH.out _ hb).mono ?_
  rintro e v ⟨rfl, g⟩
  have hb' := Cl.Nb hb g
  have hc' := Cl.cell_bt hc g
  clear g hb hc
  have hb := hb'
  have hc := hc'
  clear hb' hc'
  go_wp2_with fail
  refine (FW.out _ hb).mono ?_
  rintro e v ⟨rfl, g⟩
  have hb' := Cl.Nb hb g
  have hc' := Cl.cell_bt hc g
  clear g hb hc FW
  have hb := hb'
  have hc := hc'
  clear hb' hc'
  go_wp2_with fail
  refine (HV.out _ hb).mono ?_
  rintro e v ⟨rfl, g⟩
  have hb' := Cl.Nb hb g
  have hc' := Cl.cell_bt hc g
  clear g hb hc HV HH
  have hb := hb'
  have hc := hc'
  clear hb' hc'
  go_wp2_with fail
  generalize raw % 144001440 = t at *
  refine (LT.out _ hb).mono ?_
  rintro e v ⟨rfl, g⟩
  have hb' := Cl.Nb hb g
  have hc' := Cl.cell_bt hc g
  clear g hb hc
  have hb := hb'
  have hc := hc'
  clear hb' hc'
  go_wp2_with fail
  refine (IN.out _ hb).mono ?_
  rintro e v ⟨rfl, g⟩
  have hb' := Cl.Nb hb g
  have hc' := Cl.cell_bt hc g
  clear g hb hc LT
  have hb := hb'
  have hc := hc'
  clear hb' hc'
  go_wp2_with fail
  clear hle'
  go_loopw [12] (fun i wr => ∃ k : Nat, k + 1 ≤ zs.length ∧ i = .int .i64 ((k : Int) + 1) ∧ Hid (Cl.Mono zs k) ∧ wr.cell? ⟨w.heap.size, 0, none⟩ = some (.slice A zs.length c) ∧ Below w.heap.size w wr) (fun i _ => zs.length - (intOf i).toNat)
  case atStart => exact ⟨0, h1n, rfl, Lib.hid (fun k hk => absurd hk (Nat.not_lt_zero _)), hc, hb⟩
  case round =>
    obtain ⟨k, hk, rfl, HK, hc, hb⟩ := hrel
    have hcd : wr.drew.cell? ⟨w.heap.size, 0, none⟩ = some (.slice A zs.length c) := hc
    by_cases hlt : k + 1 < zs.length
    · obtain ⟨ad, rfl, x1, x2, x3, x4⟩ := (HZ.out wr hb).at (k := k) (by omega)
      obtain ⟨ad', e', y1, y2, y3, y4⟩ := (HZ.out wr hb).at hlt
      cases e'
      obtain ⟨p, hp⟩ : ∃ p, p = (zs.getD k (0, 0)).2 := ⟨_, rfl⟩
      obtain ⟨q, hq⟩ : ∃ q, q = (zs.getD (k + 1) (0, 0)).2 := ⟨_, rfl⟩
      rw [← hp] at x2 x4
      rw [← hq] at y2 y4
      have HPQ := Lib.hid (And.intro hp hq)
      clear hp hq
      by_cases hpq : q < p
      · go_wp2_with fail
        go_region
        go_wp2_with fail
        go_ret
        exact ⟨rfl, hb.drew⟩
      · go_wp2_with fail
        go_region
        go_wp2_with fail
        go_roundw
        case rel => exact ⟨k + 1, by omega, by go_num, Lib.hid (fun j hj => by
          rcases Nat.lt_or_ge j k with h | h
          · exact HK.out j h
          · obtain rfl : j = k := by omega
            rw [← HPQ.out.1, ← HPQ.out.2]
            omega), hcd, hb.drew⟩
        case measure => simp [intOf]; omega
    · have hu := HM.out k (by omega) HK.out
      have hu' : (u == t) = true := by simp [hu]
      clear hu
      go_wp2_with fail
      go_ret
      exact ⟨rfl, hb⟩

theorem back_walk (A : Option Addr) (c : Nat) (zs : List Cl.Sh) (raw : Int) (w : World) (hp : PowC w.heap.size w) (hz : Zn w w.heap.size A zs) (hm : zs.length ≤ maxLen) (wi : (Lit.int .u32 raw).wf = true) :
    Calls Tryd.prog 6 #[.agg #[.slice A zs.length c], .int .u32 raw] w fun e w' => e = .returned (.bool true) ∧ Below w.heap.size w w' := by
  cases h : (decide ((zs.length : Int) ≤ 40) && Cl.vz zs)
  · exact back_no A c zs raw w hp hz h
  · simp only [Bool.and_eq_true] at h
    exact back_yes A c zs raw w hp hz h.2 (Cl.u32r wi).1 (Cl.u32r wi).2
end Go.Proofs.YtkkgefefbamcpaaDoor
