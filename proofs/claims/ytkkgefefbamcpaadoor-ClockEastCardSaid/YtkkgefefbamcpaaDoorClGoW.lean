/- ClockGoes: the walk (layer 6). -/
import Derived.Test.YtkkgefefbamcpaaDoorClHd
import Derived.Test.YtkkgefefbamcpaaDoorClDyW
set_option linter.unusedSimpArgs false
set_option linter.unusedVariables false
namespace Go.Proofs.YtkkgefefbamcpaaDoor
open Go.RowKit
set_option maxRecDepth 100000

/-- By how much the offset changes at an instant. -/
def Cl.jmp : Int → List Cl.Sp → Int → Int → Int
  | _, [], _, a => a
  | p, x :: r, T, a => Cl.jmp x.2.1 r T (if x.1 = T then x.2.1 - p else a)
theorem Cl.jmp_lt : ∀ (l : List Cl.Sp) (f p T a : Int), Cl.Ch f l → T < f → Cl.jmp p l T a = a
  | [], _, _, _, _, _, _ => rfl
  | x :: r, f, p, T, a, h, hT => by
    have h1 := h.1
    have h2 := h.2.1
    unfold Cl.jmp
    rw [if_neg (by omega)]
    exact Cl.jmp_lt r x.2.2 _ T a h.2.2 (by omega)
theorem Cl.jmp_spec : ∀ (l : List Cl.Sp) (f p t : Int), Cl.Ch f l → Cl.offW p l (t + 1) = Cl.offW p l t + Cl.jmp p l (t + 1) 0
  | [], _, _, _, _ => by simp [Cl.offW, Cl.jmp]
  | x :: r, f, p, t, h => by
    have h1 := h.1
    have h2 := h.2.1
    unfold Cl.jmp
    by_cases k1 : t + 1 < f
    · rw [Cl.offW_lt (x :: r) f p (t + 1) h k1, Cl.offW_lt (x :: r) f p t h (by omega), if_neg (by omega), Cl.jmp_lt r x.2.2 _ _ _ h.2.2 (by omega)]
      omega
    · by_cases k2 : t + 1 = f
      · rw [Cl.offW_here x r f p (t + 1) h (by omega) (by omega), Cl.offW_lt (x :: r) f p t h (by omega), if_pos (by omega), Cl.jmp_lt r x.2.2 _ _ _ h.2.2 (by omega)]
        omega
      · rw [Cl.offW_in x r f p (t + 1) h (by omega), Cl.offW_in x r f p t h (by omega), if_neg (by omega)]
        exact Cl.jmp_spec r x.2.2 x.2.1 t h.2.2
theorem Cl.getD_eq {zs : List Cl.Sh} {k : Nat} (hk : k < zs.length) : zs.getD k (0, 0) = zs[k] := by
  rw [List.getD_eq_getElem?_getD, List.getElem?_eq_getElem hk]
  rfl
theorem Cl.sp_drop {zs : List Cl.Sh} {k : Nat} (hk : k < zs.length) : ∃ e, (Cl.sp zs).drop k = ((zs.getD k (0, 0)).1, (zs.getD k (0, 0)).2, e) :: (Cl.sp zs).drop (k + 1) := by
  have hl := Cl.sp_length zs
  have h := Cl.sp_get zs k hk
  rw [List.getElem?_eq_getElem (by omega)] at h
  have hd := List.drop_eq_getElem_cons (l := Cl.sp zs) (i := k) (by omega)
  rw [Option.some.inj h, ← Cl.getD_eq hk] at hd
  exact ⟨_, hd⟩
theorem Cl.jmp_step {zs : List Cl.Sh} {k : Nat} (hk : k + 1 < zs.length) (T j : Int) :
    Cl.jmp (zs.getD k (0, 0)).2 ((Cl.sp zs).drop (k + 1)) T j = Cl.jmp (zs.getD (k + 1) (0, 0)).2 ((Cl.sp zs).drop (k + 2)) T (if (zs.getD (k + 1) (0, 0)).1 = T then (zs.getD (k + 1) (0, 0)).2 - (zs.getD k (0, 0)).2 else j) := by
  obtain ⟨e, he⟩ := Cl.sp_drop hk
  rw [he]
  rfl
theorem Cl.from_in {zs : List Cl.Sh} (g : Cl.Good zs) {k : Nat} (h1 : 1 ≤ k) (hk : k < zs.length) : 1 ≤ (zs.getD k (0, 0)).1 ∧ (zs.getD k (0, 0)).1 ≤ 144001439 := by
  obtain ⟨e, he⟩ := Cl.sp_drop hk
  obtain ⟨e0, h0⟩ := Cl.sp_drop (zs := zs) (k := 0) (by omega)
  rw [List.drop_zero] at h0
  have hc := g.ch
  rw [h0] at hc
  have hm : ((zs.getD k (0, 0)).1, (zs.getD k (0, 0)).2, e) ∈ (Cl.sp zs).drop 1 := by
    have : ((zs.getD k (0, 0)).1, (zs.getD k (0, 0)).2, e) ∈ (Cl.sp zs).drop k := by rw [he]; exact List.mem_cons_self ..
    have hkk : (Cl.sp zs).drop k = ((Cl.sp zs).drop 1).drop (k - 1) := by rw [List.drop_drop, show 1 + (k - 1) = k by omega]
    rw [hkk] at this
    exact List.mem_of_mem_drop this
  have hb := Cl.ch_bounds _ _ hc.2.2 _ hm
  have h2 := hc.2.1
  unfold Cl.M1 at hb
  dsimp only at hb h2
  omega
theorem Cl.off_in {zs : List Cl.Sh} (g : Cl.Good zs) {k : Nat} (hk : k < zs.length) : -840 ≤ (zs.getD k (0, 0)).2 ∧ (zs.getD k (0, 0)).2 ≤ 840 := by
  obtain ⟨e, he⟩ := Cl.sp_drop hk
  have : ((zs.getD k (0, 0)).1, (zs.getD k (0, 0)).2, e) ∈ Cl.sp zs := List.mem_of_mem_drop (by rw [he]; exact List.mem_cons_self ..)
  exact g.off _ this
theorem Cl.goes_fact {zs : List Cl.Sh} (hv : Cl.vz zs = true) {t : Int} (h0 : 0 ≤ t) (h1 : t < 144001439) :
    ∃ a b c d tot, Cl.locF zs t = (a, b, 0) ∧ Cl.locF zs (t + 1) = (c, d, 0) ∧ (0 ≤ b ∧ b < 1440 ∧ 0 ≤ d ∧ d < 1440 ∧ -1 ≤ a ∧ a ≤ 100001 ∧ -1 ≤ c ∧ c ≤ 100001) ∧ 1440 * c + d = 1440 * a + b + 1 + tot ∧
      tot = Cl.jmp (zs.getD 0 (0, 0)).2 ((Cl.sp zs).drop 1) (t + 1) 0 := by
  have g := Cl.good_of zs hv
  obtain ⟨l1, l2, l3, l4, l5, l6⟩ := Cl.locF_ok hv h0 (show t < Cl.M1 by unfold Cl.M1; omega)
  obtain ⟨m1, m2, m3, m4, m5, m6⟩ := Cl.locF_ok (t := t + 1) hv (by omega) (show t + 1 < Cl.M1 by unfold Cl.M1; omega)
  obtain ⟨e0, hd⟩ := Cl.sp_drop (zs := zs) (k := 0) (by have := g.one; omega)
  rw [List.drop_zero] at hd
  have hc := g.ch
  rw [hd] at hc
  refine ⟨(Cl.locF zs t).1, (Cl.locF zs t).2.1, (Cl.locF zs (t + 1)).1, (Cl.locF zs (t + 1)).2.1, Cl.jmp (zs.getD 0 (0, 0)).2 ((Cl.sp zs).drop 1) (t + 1) 0, Prod.ext rfl (Prod.ext rfl l1), Prod.ext rfl (Prod.ext rfl m1), ⟨l2, l3, m2, m3, l4, l5, m4, m5⟩, ?_, rfl⟩
  have := Cl.jmp_spec ((Cl.sp zs).drop 1) _ (zs.getD 0 (0, 0)).2 t hc.2.2
  rw [l6, m6]
  unfold Cl.loc
  clear l1 l2 l3 l4 l5 l6 m1 m2 m3 m4 m5 m6
  rw [Nat.zero_add] at hd hc
  generalize (Cl.sp zs).drop 1 = R at *
  rw [hd, Cl.offW_in _ _ 0 0 t hc h0, Cl.offW_in _ _ 0 0 (t + 1) hc (by omega)]
  dsimp only
  omega
theorem Cl.u8r {n : Int} (h : (Lit.int .u8 n).wf = true) : 0 ≤ n ∧ n < 256 := by
  have : 0 ≤ n ∧ n ≤ 255 := by simpa [Lit.wf, IntKind.min, IntKind.max, IntKind.signed, IntKind.bits] using h
  omega

set_option maxHeartbeats 1000000 in
theorem goes_no (A : Option Addr) (c : Nat) (zs : List Cl.Sh) (raw att : Int) (w : World) (hp : PowC w.heap.size w) (hz : Zn w w.heap.size A zs) (h : (decide ((zs.length : Int) ≤ 40) && Cl.vz zs) = false) :
    Calls Tryd.prog 4 #[.agg #[.slice A zs.length c], .int .u32 raw, .int .u8 att] w fun e w' => e = .returned (.bool true) ∧ Below w.heap.size w w' := by
  have hb := Cl.al w (.cells #[.slice A zs.length c] 24)
  have hc := (Boxed.new w 24 (.slice A zs.length c)).cell
  have HH := Lib.hid (fun v (h : Below w.heap.size w v) => head_any v (hp.bt h))
  have FW := Lib.hid (fun v (_ : Below w.heap.size w v) => few_any A c zs.length 40 v)
  have HV := Lib.hid (fun v (h : Below w.heap.size w v) => valid_any A c zs v (hz.bt h))
  clear hp hz
  cases hf : decide ((zs.length : Int) ≤ 40)
  · rw [hf] at FW
    clear hf h HV
    go_enter Tryd.func4, Tryd.ntmps4
    go_wp2_with fail
    refine (HH.out _ hb).mono ?_
    rintro e v ⟨rfl, g⟩
    have hb' := Cl.Nb hb g
    have hc' := Cl.cell_bt hc g
    clear g hb hc
    have hb := hb'
    have hc := hc'
    clear hb' hc'
    go_wp2_with fail
    refine (FW.out _ hb).mono ?_
    rintro e v ⟨rfl, g⟩
    have hb' := Cl.Nb hb g
    have hc' := Cl.cell_bt hc g
    clear g hb hc
    have hb := hb'
    have hc := hc'
    clear hb' hc'
    go_wp2_with fail
    go_ret
    exact ⟨rfl, hb⟩
  · rw [hf] at FW h
    have hv : Cl.vz zs = false := by simpa using h
    rw [hv] at HV
    clear hf h hv
    go_enter Tryd.func4, Tryd.ntmps4
    go_wp2_with fail
    refine (HH.out _ hb).mono ?_
    rintro e v ⟨rfl, g⟩
    have hb' := Cl.Nb hb g
    have hc' := Cl.cell_bt hc g
    clear g hb hc
    have hb := hb'
    have hc := hc'
    clear hb' hc'
    go_wp2_with fail
    refine (FW.out _ hb).mono ?_
    rintro e v ⟨rfl, g⟩
    have hb' := Cl.Nb hb g
    have hc' := Cl.cell_bt hc g
    clear g hb hc
    have hb := hb'
    have hc := hc'
    clear hb' hc'
    go_wp2_with fail
    refine (HV.out _ hb).mono ?_
    rintro e v ⟨rfl, g⟩
    have hb' := Cl.Nb hb g
    have hc' := Cl.cell_bt hc g
    clear g hb hc
    have hb := hb'
    have hc := hc'
    clear hb' hc'
    go_wp2_with fail
    go_ret
    exact ⟨rfl, hb⟩

set_option maxHeartbeats 8000000 in
theorem goes_yes (A : Option Addr) (c : Nat) (zs : List Cl.Sh) (raw att : Int) (w : World) (hp : PowC w.heap.size w) (hz : Zn w w.heap.size A zs) (hv : Cl.vz zs = true) (hr0 : 0 ≤ raw) (hr1 : raw < 4294967296) (ha0 : 0 ≤ att) (ha1 : att < 256) :
    Calls Tryd.prog 4 #[.agg #[.slice A zs.length c], .int .u32 raw, .int .u8 att] w fun e w' => e = .returned (.bool true) ∧ Below w.heap.size w w' := by
  have hb := Cl.al w (.cells #[.slice A zs.length c] 24)
  have hc := (Boxed.new w 24 (.slice A zs.length c)).cell
  have HH := Lib.hid (fun v (h : Below w.heap.size w v) => head_any v (hp.bt h))
  have FW := Lib.hid (fun v (_ : Below w.heap.size w v) => few_any A c zs.length 40 v)
  have HV := Lib.hid (fun v (h : Below w.heap.size w v) => valid_any A c zs v (hz.bt h))
  have g := Cl.good_of zs hv
  have hfew := g.few
  rw [decide_eq_true (show (zs.length : Int) ≤ 40 by omega)] at FW
  rw [hv] at HV
  have HZ := Lib.hid (fun v (h : Below w.heap.size w v) => hz.bt h)
  obtain ⟨m, hm⟩ : ∃ m : Nat, att % ((zs.length : Int) + 3) = (m : Int) := ⟨(att % ((zs.length : Int) + 3)).toNat, by have := Int.emod_nonneg att (show (zs.length : Int) + 3 ≠ 0 by omega); omega⟩
  by_cases hm0 : m = 0
  · subst hm0
    obtain ⟨a, b, c', d, tot, hA, hB, ⟨r1, r2, r3, r4, r5, r6, r7, r8⟩, hsum, htot⟩ := Cl.goes_fact hv (t := raw % 144001439) (by omega) (by omega)
    have LT : Hid (∀ v, Below w.heap.size w v → Calls Tryd.prog 13 #[.agg #[.slice A zs.length c], .int .i64 (raw % 144001439)] v fun e w' => e = .returned (.tuple #[.int .i64 a, .int .i64 b, .int .i64 0]) ∧ Below v.heap.size v w') := Lib.hid (fun v h => by
      have := local_any A c zs (raw % 144001439) v (hz.bt h)
      rw [hA] at this
      exact this)
    have LU : Hid (∀ v, Below w.heap.size w v → Calls Tryd.prog 13 #[.agg #[.slice A zs.length c], .int .i64 (raw % 144001439 + 1)] v fun e w' => e = .returned (.tuple #[.int .i64 c', .int .i64 d, .int .i64 0]) ∧ Below v.heap.size v w') := Lib.hid (fun v h => by
      have := local_any A c zs (raw % 144001439 + 1) v (hz.bt h)
      rw [hB] at this
      exact this)
    have HS := Lib.hid (And.intro hsum htot)
    have OFF := Lib.hid (fun k hk => Cl.off_in g (k := k) hk)
    have h1n : 1 ≤ zs.length := g.one
    have ht0 : 0 ≤ raw % 144001439 := by omega
    have ht1 : raw % 144001439 < 144001439 := by omega
    clear hA hB hsum htot g hv hp hz
    go_enter Tryd.func4, Tryd.ntmps4
    go_wp2_with fail
    refine (HH.out _ hb).mono ?_
    rintro e v ⟨rfl, g⟩
    have hb' := Cl.Nb hb g
    have hc' := Cl.cell_bt hc g
    clear g hb hc
    have hb := hb'
    have hc := hc'
    clear hb' hc'
    go_wp2_with fail
    refine (FW.out _ hb).mono ?_
    rintro e v ⟨rfl, g⟩
    have hb' := Cl.Nb hb g
    have hc' := Cl.cell_bt hc g
    clear g hb hc FW
    have hb := hb'
    have hc := hc'
    clear hb' hc'
    go_wp2_with fail
    refine (HV.out _ hb).mono ?_
    rintro e v ⟨rfl, g⟩
    have hb' := Cl.Nb hb g
    have hc' := Cl.cell_bt hc g
    clear g hb hc HV HH
    have hb := hb'
    have hc := hc'
    clear hb' hc'
    go_wp2_with fail
    generalize raw % 144001439 = t at *
    refine (LT.out _ hb).mono ?_
    rintro e v ⟨rfl, g⟩
    have hb' := Cl.Nb hb g
    have hc' := Cl.cell_bt hc g
    clear g hb hc LT
    have hb := hb'
    have hc := hc'
    clear hb' hc'
    go_wp2_with fail
    refine (LU.out _ hb).mono ?_
    rintro e v ⟨rfl, g⟩
    have hb' := Cl.Nb hb g
    have hc' := Cl.cell_bt hc g
    clear g hb hc LU
    have hb := hb'
    have hc := hc'
    clear hb' hc'
    go_wp2_with fail
    go_loopw [16, 17] (fun js i wr => ∃ (k : Nat) (j : Int), k + 1 ≤ zs.length ∧ i = .int .i64 ((k : Int) + 1) ∧ js = .int .i64 j ∧ -1680 ≤ j ∧ j ≤ 1680 ∧ Hid (Cl.jmp (zs.getD k (0, 0)).2 ((Cl.sp zs).drop (k + 1)) (t + 1) j = tot) ∧ wr.cell? ⟨w.heap.size, 0, none⟩ = some (.slice A zs.length c) ∧ Below w.heap.size w wr) (fun _ i _ => zs.length - (intOf i).toNat)
    case atStart => exact ⟨0, 0, h1n, rfl, rfl, by omega, by omega, Lib.hid HS.out.2.symm, hc, hb⟩
    case round =>
      obtain ⟨k, j, hk, rfl, rfl, hj0, hj1, HJ, hc, hb⟩ := hrel
      have hcd : wr.drew.cell? ⟨w.heap.size, 0, none⟩ = some (.slice A zs.length c) := hc
      by_cases hlt : k + 1 < zs.length
      · obtain ⟨ad, e0, x1, x2, x3, x4⟩ := (HZ.out wr hb).at (k := k) (by omega)
        cases e0
        obtain ⟨ad', e', y1, y2, y3, y4⟩ := (HZ.out wr hb).at hlt
        cases e'
        have hs := Cl.jmp_step hlt (t + 1) j
        have o1 := OFF.out k (by omega)
        have o2 := OFF.out (k + 1) hlt
        obtain ⟨p, hp⟩ : ∃ p, p = (zs.getD k (0, 0)).2 := ⟨_, rfl⟩
        obtain ⟨q, hq⟩ : ∃ q, q = (zs.getD (k + 1) (0, 0)).2 := ⟨_, rfl⟩
        obtain ⟨f, hf⟩ : ∃ f, f = (zs.getD (k + 1) (0, 0)).1 := ⟨_, rfl⟩
        rw [← hp] at x2 x4 o1
        rw [← hq] at y2 y4 o2
        rw [← hf] at y1 y3 hs
        rw [HJ.out, ← hp, ← hq] at hs
        have hq' := hq
        rw [hq] at hs
        rw [← hq] at hs
        have HSS := Lib.hid hs
        have HQ := Lib.hid hq
        obtain ⟨p0, p1⟩ := o1
        obtain ⟨q0, q1⟩ := o2
        clear hp hq hf hs hq'
        by_cases hft : f = t + 1
        · have hft' : (f == t + 1) = true := by simp [hft]
          have hw : IntKind.i64.wrap (q - p) = q - p := Cl.wrapK (by omega)
          have HN := Lib.hid (show Cl.jmp (zs.getD (k + 1) (0, 0)).2 ((Cl.sp zs).drop (k + 2)) (t + 1) (q - p) = tot by
            have := HSS.out
            rw [if_pos hft] at this
            rw [← HQ.out]
            exact this.symm)
          clear hft
          go_wp2_with fail
          go_region
          go_wp2_with fail
          go_roundw
          case rel => exact ⟨k + 1, q - p, by omega, by go_num, by go_num, by omega, by omega, HN, hcd, hb.drew⟩
          case measure => simp [intOf]; omega
        · have hft' : (f == t + 1) = false := by simp [hft]
          have HN := Lib.hid (show Cl.jmp (zs.getD (k + 1) (0, 0)).2 ((Cl.sp zs).drop (k + 2)) (t + 1) j = tot by
            have := HSS.out
            rw [if_neg hft] at this
            rw [← HQ.out]
            exact this.symm)
          clear hft
          go_wp2_with fail
          go_roundw
          case rel => exact ⟨k + 1, j, by omega, by go_num, by go_num, by omega, by omega, HN, hc, hb⟩
          case measure => simp [intOf]; omega
      · have hj : j = tot := by
          have := HJ.out
          rw [List.drop_eq_nil_of_le (by rw [Cl.sp_length]; omega)] at this
          exact this
        have hq := HS.out.1
        have hqe : (1440 * c' + d == 1440 * a + b + 1 + j) = true := by rw [beq_iff_eq]; omega
        have q1 : decide (0 ≤ b) = true := decide_eq_true r1
        have q2 : decide (b < 1440) = true := decide_eq_true r2
        have q3 : decide (0 ≤ d) = true := decide_eq_true r3
        have q4 : decide (d < 1440) = true := decide_eq_true r4
        have q5 : decide (-1 ≤ a) = true := decide_eq_true r5
        have q6 : decide (c' ≤ 100001) = true := decide_eq_true r8
        clear hj hq
        go_wp2_with fail
        go_ret
        exact ⟨rfl, hb⟩
  · by_cases hmn : m < zs.length
    · obtain ⟨f1, f2⟩ := Cl.from_in g (k := m) (by omega) hmn
      obtain ⟨f0, hf0⟩ : ∃ f0, f0 = (zs.getD m (0, 0)).1 := ⟨_, rfl⟩
      rw [← hf0] at f1 f2
      have HF0 := Lib.hid hf0
      clear hf0
      obtain ⟨a, b, c', d, tot, hA, hB, ⟨r1, r2, r3, r4, r5, r6, r7, r8⟩, hsum, htot⟩ := Cl.goes_fact hv (t := f0 - 1) (by omega) (by omega)
      have LT : Hid (∀ v, Below w.heap.size w v → Calls Tryd.prog 13 #[.agg #[.slice A zs.length c], .int .i64 (f0 - 1)] v fun e w' => e = .returned (.tuple #[.int .i64 a, .int .i64 b, .int .i64 0]) ∧ Below v.heap.size v w') := Lib.hid (fun v h => by
        have := local_any A c zs (f0 - 1) v (hz.bt h)
        rw [hA] at this
        exact this)
      have LU : Hid (∀ v, Below w.heap.size w v → Calls Tryd.prog 13 #[.agg #[.slice A zs.length c], .int .i64 (f0 - 1 + 1)] v fun e w' => e = .returned (.tuple #[.int .i64 c', .int .i64 d, .int .i64 0]) ∧ Below v.heap.size v w') := Lib.hid (fun v h => by
        have := local_any A c zs (f0 - 1 + 1) v (hz.bt h)
        rw [hB] at this
        exact this)
      have HS := Lib.hid (And.intro hsum htot)
      have OFF := Lib.hid (fun k hk => Cl.off_in g (k := k) hk)
      have h1n : 1 ≤ zs.length := g.one
      have ht0 : 0 ≤ f0 - 1 := by omega
      have ht1 : f0 - 1 < 144001439 := by omega
      clear hA hB hsum htot g hv hp hz
      go_enter Tryd.func4, Tryd.ntmps4
      go_wp2_with fail
      refine (HH.out _ hb).mono ?_
      rintro e v ⟨rfl, g⟩
      have hb' := Cl.Nb hb g
      have hc' := Cl.cell_bt hc g
      clear g hb hc
      have hb := hb'
      have hc := hc'
      clear hb' hc'
      go_wp2_with fail
      refine (FW.out _ hb).mono ?_
      rintro e v ⟨rfl, g⟩
      have hb' := Cl.Nb hb g
      have hc' := Cl.cell_bt hc g
      clear g hb hc FW
      have hb := hb'
      have hc := hc'
      clear hb' hc'
      go_wp2_with fail
      refine (HV.out _ hb).mono ?_
      rintro e v ⟨rfl, g⟩
      have hb' := Cl.Nb hb g
      have hc' := Cl.cell_bt hc g
      clear g hb hc HV HH
      have hb := hb'
      have hc := hc'
      clear hb' hc'
      obtain ⟨ad0, rfl, z1, z2, z3, z4⟩ := (HZ.out v hb).at hmn
      rw [← HF0.out] at z1 z3
      go_wp2_with fail
      clear z1 z2 z3 z4
      generalize f0 - 1 = t at *
      refine (LT.out _ hb).mono ?_
      rintro e v ⟨rfl, g⟩
      have hb' := Cl.Nb hb g
      have hc' := Cl.cell_bt hc g
      clear g hb hc LT
      have hb := hb'
      have hc := hc'
      clear hb' hc'
      go_wp2_with fail
      refine (LU.out _ hb).mono ?_
      rintro e v ⟨rfl, g⟩
      have hb' := Cl.Nb hb g
      have hc' := Cl.cell_bt hc g
      clear g hb hc LU
      have hb := hb'
      have hc := hc'
      clear hb' hc'
      go_wp2_with fail
      go_loopw [16, 17] (fun js i wr => ∃ (k : Nat) (j : Int), k + 1 ≤ zs.length ∧ i = .int .i64 ((k : Int) + 1) ∧ js = .int .i64 j ∧ -1680 ≤ j ∧ j ≤ 1680 ∧ Hid (Cl.jmp (zs.getD k (0, 0)).2 ((Cl.sp zs).drop (k + 1)) (t + 1) j = tot) ∧ wr.cell? ⟨w.heap.size, 0, none⟩ = some (.slice (some ad0) zs.length c) ∧ Below w.heap.size w wr) (fun _ i _ => zs.length - (intOf i).toNat)
      case atStart => exact ⟨0, 0, h1n, rfl, rfl, by omega, by omega, Lib.hid HS.out.2.symm, hc, hb⟩
      case round =>
        obtain ⟨k, j, hk, rfl, rfl, hj0, hj1, HJ, hc, hb⟩ := hrel
        have hcd : wr.drew.cell? ⟨w.heap.size, 0, none⟩ = some (.slice (some ad0) zs.length c) := hc
        by_cases hlt : k + 1 < zs.length
        · obtain ⟨ad, e0, x1, x2, x3, x4⟩ := (HZ.out wr hb).at (k := k) (by omega)
          cases e0
          obtain ⟨ad', e', y1, y2, y3, y4⟩ := (HZ.out wr hb).at hlt
          cases e'
          have hs := Cl.jmp_step hlt (t + 1) j
          have o1 := OFF.out k (by omega)
          have o2 := OFF.out (k + 1) hlt
          obtain ⟨p, hp⟩ : ∃ p, p = (zs.getD k (0, 0)).2 := ⟨_, rfl⟩
          obtain ⟨q, hq⟩ : ∃ q, q = (zs.getD (k + 1) (0, 0)).2 := ⟨_, rfl⟩
          obtain ⟨f, hf⟩ : ∃ f, f = (zs.getD (k + 1) (0, 0)).1 := ⟨_, rfl⟩
          rw [← hp] at x2 x4 o1
          rw [← hq] at y2 y4 o2
          rw [← hf] at y1 y3 hs
          rw [HJ.out, ← hp, ← hq] at hs
          have hq' := hq
          rw [hq] at hs
          rw [← hq] at hs
          have HSS := Lib.hid hs
          have HQ := Lib.hid hq
          obtain ⟨p0, p1⟩ := o1
          obtain ⟨q0, q1⟩ := o2
          clear hp hq hf hs hq'
          by_cases hft : f = t + 1
          · have hft' : (f == t + 1) = true := by simp [hft]
            have hw : IntKind.i64.wrap (q - p) = q - p := Cl.wrapK (by omega)
            have HN := Lib.hid (show Cl.jmp (zs.getD (k + 1) (0, 0)).2 ((Cl.sp zs).drop (k + 2)) (t + 1) (q - p) = tot by
              have := HSS.out
              rw [if_pos hft] at this
              rw [← HQ.out]
              exact this.symm)
            clear hft
            go_wp2_with fail
            go_region
            go_wp2_with fail
            go_roundw
            case rel => exact ⟨k + 1, q - p, by omega, by go_num, by go_num, by omega, by omega, HN, hcd, hb.drew⟩
            case measure => simp [intOf]; omega
          · have hft' : (f == t + 1) = false := by simp [hft]
            have HN := Lib.hid (show Cl.jmp (zs.getD (k + 1) (0, 0)).2 ((Cl.sp zs).drop (k + 2)) (t + 1) j = tot by
              have := HSS.out
              rw [if_neg hft] at this
              rw [← HQ.out]
              exact this.symm)
            clear hft
            go_wp2_with fail
            go_roundw
            case rel => exact ⟨k + 1, j, by omega, by go_num, by go_num, by omega, by omega, HN, hc, hb⟩
            case measure => simp [intOf]; omega
        · have hj : j = tot := by
            have := HJ.out
            rw [List.drop_eq_nil_of_le (by rw [Cl.sp_length]; omega)] at this
            exact this
          have hq := HS.out.1
          have hqe : (1440 * c' + d == 1440 * a + b + 1 + j) = true := by rw [beq_iff_eq]; omega
          have q1 : decide (0 ≤ b) = true := decide_eq_true r1
          have q2 : decide (b < 1440) = true := decide_eq_true r2
          have q3 : decide (0 ≤ d) = true := decide_eq_true r3
          have q4 : decide (d < 1440) = true := decide_eq_true r4
          have q5 : decide (-1 ≤ a) = true := decide_eq_true r5
          have q6 : decide (c' ≤ 100001) = true := decide_eq_true r8
          clear hj hq
          go_wp2_with fail
          go_ret
          exact ⟨rfl, hb⟩
    · have hmn' : zs.length ≤ m := by omega
      clear hmn
      obtain ⟨a, b, c', d, tot, hA, hB, ⟨r1, r2, r3, r4, r5, r6, r7, r8⟩, hsum, htot⟩ := Cl.goes_fact hv (t := raw % 144001439) (by omega) (by omega)
      have LT : Hid (∀ v, Below w.heap.size w v → Calls Tryd.prog 13 #[.agg #[.slice A zs.length c], .int .i64 (raw % 144001439)] v fun e w' => e = .returned (.tuple #[.int .i64 a, .int .i64 b, .int .i64 0]) ∧ Below v.heap.size v w') := Lib.hid (fun v h => by
        have := local_any A c zs (raw % 144001439) v (hz.bt h)
        rw [hA] at this
        exact this)
      have LU : Hid (∀ v, Below w.heap.size w v → Calls Tryd.prog 13 #[.agg #[.slice A zs.length c], .int .i64 (raw % 144001439 + 1)] v fun e w' => e = .returned (.tuple #[.int .i64 c', .int .i64 d, .int .i64 0]) ∧ Below v.heap.size v w') := Lib.hid (fun v h => by
        have := local_any A c zs (raw % 144001439 + 1) v (hz.bt h)
        rw [hB] at this
        exact this)
      have HS := Lib.hid (And.intro hsum htot)
      have OFF := Lib.hid (fun k hk => Cl.off_in g (k := k) hk)
      have h1n : 1 ≤ zs.length := g.one
      have ht0 : 0 ≤ raw % 144001439 := by omega
      have ht1 : raw % 144001439 < 144001439 := by omega
      clear hA hB hsum htot g hv hp hz
      go_enter Tryd.func4, Tryd.ntmps4
      go_wp2_with fail
      refine (HH.out _ hb).mono ?_
      rintro e v ⟨rfl, g⟩
      have hb' := Cl.Nb hb g
      have hc' := Cl.cell_bt hc g
      clear g hb hc
      have hb := hb'
      have hc := hc'
      clear hb' hc'
      go_wp2_with fail
      refine (FW.out _ hb).mono ?_
      rintro e v ⟨rfl, g⟩
      have hb' := Cl.Nb hb g
      have hc' := Cl.cell_bt hc g
      clear g hb hc FW
      have hb := hb'
      have hc := hc'
      clear hb' hc'
      go_wp2_with fail
      refine (HV.out _ hb).mono ?_
      rintro e v ⟨rfl, g⟩
      have hb' := Cl.Nb hb g
      have hc' := Cl.cell_bt hc g
      clear g hb hc HV HH
      have hb := hb'
      have hc := hc'
      clear hb' hc'
      go_wp2_with fail
      generalize raw % 144001439 = t at *
      refine (LT.out _ hb).mono ?_
      rintro e v ⟨rfl, g⟩
      have hb' := Cl.Nb hb g
      have hc' := Cl.cell_bt hc g
      clear g hb hc LT
      have hb := hb'
      have hc := hc'
      clear hb' hc'
      go_wp2_with fail
      refine (LU.out _ hb).mono ?_
      rintro e v ⟨rfl, g⟩
      have hb' := Cl.Nb hb g
      have hc' := Cl.cell_bt hc g
      clear g hb hc LU
      have hb := hb'
      have hc := hc'
      clear hb' hc'
      go_wp2_with fail
      go_loopw [16, 17] (fun js i wr => ∃ (k : Nat) (j : Int), k + 1 ≤ zs.length ∧ i = .int .i64 ((k : Int) + 1) ∧ js = .int .i64 j ∧ -1680 ≤ j ∧ j ≤ 1680 ∧ Hid (Cl.jmp (zs.getD k (0, 0)).2 ((Cl.sp zs).drop (k + 1)) (t + 1) j = tot) ∧ wr.cell? ⟨w.heap.size, 0, none⟩ = some (.slice A zs.length c) ∧ Below w.heap.size w wr) (fun _ i _ => zs.length - (intOf i).toNat)
      case atStart => exact ⟨0, 0, h1n, rfl, rfl, by omega, by omega, Lib.hid HS.out.2.symm, hc, hb⟩
      case round =>
        obtain ⟨k, j, hk, rfl, rfl, hj0, hj1, HJ, hc, hb⟩ := hrel
        have hcd : wr.drew.cell? ⟨w.heap.size, 0, none⟩ = some (.slice A zs.length c) := hc
        by_cases hlt : k + 1 < zs.length
        · obtain ⟨ad, e0, x1, x2, x3, x4⟩ := (HZ.out wr hb).at (k := k) (by omega)
          cases e0
          obtain ⟨ad', e', y1, y2, y3, y4⟩ := (HZ.out wr hb).at hlt
          cases e'
          have hs := Cl.jmp_step hlt (t + 1) j
          have o1 := OFF.out k (by omega)
          have o2 := OFF.out (k + 1) hlt
          obtain ⟨p, hp⟩ : ∃ p, p = (zs.getD k (0, 0)).2 := ⟨_, rfl⟩
          obtain ⟨q, hq⟩ : ∃ q, q = (zs.getD (k + 1) (0, 0)).2 := ⟨_, rfl⟩
          obtain ⟨f, hf⟩ : ∃ f, f = (zs.getD (k + 1) (0, 0)).1 := ⟨_, rfl⟩
          rw [← hp] at x2 x4 o1
          rw [← hq] at y2 y4 o2
          rw [← hf] at y1 y3 hs
          rw [HJ.out, ← hp, ← hq] at hs
          have hq' := hq
          rw [hq] at hs
          rw [← hq] at hs
          have HSS := Lib.hid hs
          have HQ := Lib.hid hq
          obtain ⟨p0, p1⟩ := o1
          obtain ⟨q0, q1⟩ := o2
          clear hp hq hf hs hq'
          by_cases hft : f = t + 1
          · have hft' : (f == t + 1) = true := by simp [hft]
            have hw : IntKind.i64.wrap (q - p) = q - p := Cl.wrapK (by omega)
            have HN := Lib.hid (show Cl.jmp (zs.getD (k + 1) (0, 0)).2 ((Cl.sp zs).drop (k + 2)) (t + 1) (q - p) = tot by
              have := HSS.out
              rw [if_pos hft] at this
              rw [← HQ.out]
              exact this.symm)
            clear hft
            go_wp2_with fail
            go_region
            go_wp2_with fail
            go_roundw
            case rel => exact ⟨k + 1, q - p, by omega, by go_num, by go_num, by omega, by omega, HN, hcd, hb.drew⟩
            case measure => simp [intOf]; omega
          · have hft' : (f == t + 1) = false := by simp [hft]
            have HN := Lib.hid (show Cl.jmp (zs.getD (k + 1) (0, 0)).2 ((Cl.sp zs).drop (k + 2)) (t + 1) j = tot by
              have := HSS.out
              rw [if_neg hft] at this
              rw [← HQ.out]
              exact this.symm)
            clear hft
            go_wp2_with fail
            go_roundw
            case rel => exact ⟨k + 1, j, by omega, by go_num, by go_num, by omega, by omega, HN, hc, hb⟩
            case measure => simp [intOf]; omega
        · have hj : j = tot := by
            have := HJ.out
            rw [List.drop_eq_nil_of_le (by rw [Cl.sp_length]; omega)] at this
            exact this
          have hq := HS.out.1
          have hqe : (1440 * c' + d == 1440 * a + b + 1 + j) = true := by rw [beq_iff_eq]; omega
          have q1 : decide (0 ≤ b) = true := decide_eq_true r1
          have q2 : decide (b < 1440) = true := decide_eq_true r2
          have q3 : decide (0 ≤ d) = true := decide_eq_true r3
          have q4 : decide (d < 1440) = true := decide_eq_true r4
          have q5 : decide (-1 ≤ a) = true := decide_eq_true r5
          have q6 : decide (c' ≤ 100001) = true := decide_eq_true r8
          clear hj hq
          go_wp2_with fail
          go_ret
          exact ⟨rfl, hb⟩

theorem goes_walk (A : Option Addr) (c : Nat) (zs : List Cl.Sh) (raw att : Int) (w : World) (hp : PowC w.heap.size w) (hz : Zn w w.heap.size A zs) (hm : zs.length ≤ maxLen) (wi : (Lit.int .u32 raw).wf = true) (wj : (Lit.int .u8 att).wf = true) :
    Calls Tryd.prog 4 #[.agg #[.slice A zs.length c], .int .u32 raw, .int .u8 att] w fun e w' => e = .returned (.bool true) ∧ Below w.heap.size w w' := by
  cases h : (decide ((zs.length : Int) ≤ 40) && Cl.vz zs)
  · exact goes_no A c zs raw att w hp hz h
  · simp only [Bool.and_eq_true] at h
    exact goes_yes A c zs raw att w hp hz h.2 (Cl.u32r wi).1 (Cl.u32r wi).2 (Cl.u8r wj).1 (Cl.u8r wj).2
end Go.Proofs.YtkkgefefbamcpaaDoor
