/- Layer 10: RewriteRules: the walk. -/
import Derived.Test.YtkddpealobeleaaGreatDoorRwRuM
import Derived.Deep.RegionHeld3
set_option linter.unusedSimpArgs false
set_option linter.unusedVariables false
namespace Go.Proofs.YtkddpealobeleaaGreatDoor
open Go.RowKit Go.Shelf
set_option maxRecDepth 100000
set_option maxHeartbeats 4000000
attribute [-go_sem] Builtin.append_
theorem Rw.rules_walk (t : Rw.TV) (k : Int) (x : ByteArray) (most : Int) (u : Rw.Rl) (w : World) (hp : Rw.Pa w.heap.size w) (hi : t.In w) (wk : (Lit.int .i64 k).wf = true) (wx : x.size ≤ maxLen) (wm : (Lit.int .i64 most).wf = true) (hu : u.Good) :
    Calls Tryz.prog 8 #[t.val, .int .i64 k, .string x, .int .i64 most, u.val] w fun e w' => e = .returned (.bool true) ∧ Below w.heap.size w w' := by
  have HU := Lib.hid hu
  unfold Rw.Rl.val
  obtain ⟨A, a, B, b, C, c, R, D, E, d, o, ii⟩ := t
  obtain ⟨t, ht⟩ : ∃ t : Rw.TV, (⟨A, a, B, b, C, c, R, D, E, d, o, ii⟩ : Rw.TV) = t := ⟨_, rfl⟩
  have hv : t.val = .agg #[.slice A R.length a, .slice B D.length b, .slice C E.length c, .int .i64 d, .int .i64 o, .int .i64 ii] := by rw [← ht]; rfl
  rw [ht] at hi ⊢
  rw [hv]
  have HTE := Lib.hid ht
  have HIN := Lib.hid (fun v (g : Below w.heap.size w v) => hi.bt g)
  have HP := Lib.hid (fun v (g : Below w.heap.size w v) => hp.bt g)
  have C0 := Lib.hid (fun v (g : Below w.heap.size w v) => Rw.head_any v (hp.bt g))
  obtain ⟨fw, hfw⟩ : ∃ fw, Rw.few t = fw := ⟨_, rfl⟩
  have CF := Lib.hid (fun v (g : Below w.heap.size w v) => Rw.few_any t v (hi.bt g))
  obtain ⟨ok, hok⟩ : ∃ ok, Rw.okT t = ok := ⟨_, rfl⟩
  have CV := Lib.hid (fun v (g : Below w.heap.size w v) => Rw.validT_any t v (hi.bt g) (hp.bt g).tb)
  have C1 := Lib.hid (fun v (g : Below w.heap.size w v) => Rw.forms_gi t k x most v (hi.bt g) (hp.bt g).tb wx)
  rw [hv] at C1
  rw [hv, hfw] at CF
  rw [hv, hok] at CV
  have HFW := Lib.hid hfw
  have HOK := Lib.hid hok
  have HWX := Lib.hid wx
  have hbV := Nm.al w (.cells #[.slice A R.length a, .slice B D.length b, .slice C E.length c, .int .i64 d, .int .i64 o, .int .i64 ii] 25)
  have hbU := Nm.al (w.alloc (.cells #[.slice A R.length a, .slice B D.length b, .slice C E.length c, .int .i64 d, .int .i64 o, .int .i64 ii] 25)) (.cells #[.int .i64 u.k, .string u.frm, .string u.to, .int .i64 u.cost] 52)
  have BX := Lib.hid (Rw.Bx.bt (show Rw.Bx (w.alloc (.cells #[.slice A R.length a, .slice B D.length b, .slice C E.length c, .int .i64 d, .int .i64 o, .int .i64 ii] 25)) w.heap.size #[.slice A R.length a, .slice B D.length b, .slice C E.length c, .int .i64 d, .int .i64 o, .int .i64 ii] 25 from heap_alloc_new _ _) hbU)
  have UX : Hid (Rw.Bx ((w.alloc (.cells #[.slice A R.length a, .slice B D.length b, .slice C E.length c, .int .i64 d, .int .i64 o, .int .i64 ii] 25)).alloc (.cells #[.int .i64 u.k, .string u.frm, .string u.to, .int .i64 u.cost] 52)) (w.heap.size + 1) #[.int .i64 u.k, .string u.frm, .string u.to, .int .i64 u.cost] 52) := Lib.hid (by
    have := heap_alloc_new (w.alloc (.cells #[.slice A R.length a, .slice B D.length b, .slice C E.length c, .int .i64 d, .int .i64 o, .int .i64 ii] 25)) (.cells #[.int .i64 u.k, .string u.frm, .string u.to, .int .i64 u.cost] 52)
    rw [World.size_alloc] at this
    exact this)
  have HV := Lib.hid (Nm.Nb hbV hbU)
  clear hbV hbU hfw hok hi hp ht hv wx wk wm hu
  have x0 : ((w.alloc (.cells #[.slice A R.length a, .slice B D.length b, .slice C E.length c, .int .i64 d, .int .i64 o, .int .i64 ii] 25)).alloc (.cells #[.int .i64 u.k, .string u.frm, .string u.to, .int .i64 u.cost] 52)).cell? ⟨w.heap.size, 0, none⟩ = some (.slice A R.length a) := BX.out.c 0 _ rfl
  have x1 : ((w.alloc (.cells #[.slice A R.length a, .slice B D.length b, .slice C E.length c, .int .i64 d, .int .i64 o, .int .i64 ii] 25)).alloc (.cells #[.int .i64 u.k, .string u.frm, .string u.to, .int .i64 u.cost] 52)).cell? ⟨w.heap.size, 1, none⟩ = some (.slice B D.length b) := BX.out.c 1 _ rfl
  have x2 : ((w.alloc (.cells #[.slice A R.length a, .slice B D.length b, .slice C E.length c, .int .i64 d, .int .i64 o, .int .i64 ii] 25)).alloc (.cells #[.int .i64 u.k, .string u.frm, .string u.to, .int .i64 u.cost] 52)).cell? ⟨w.heap.size, 2, none⟩ = some (.slice C E.length c) := BX.out.c 2 _ rfl
  have x3 : ((w.alloc (.cells #[.slice A R.length a, .slice B D.length b, .slice C E.length c, .int .i64 d, .int .i64 o, .int .i64 ii] 25)).alloc (.cells #[.int .i64 u.k, .string u.frm, .string u.to, .int .i64 u.cost] 52)).cell? ⟨w.heap.size, 3, none⟩ = some (.int .i64 d) := BX.out.c 3 _ rfl
  have x4 : ((w.alloc (.cells #[.slice A R.length a, .slice B D.length b, .slice C E.length c, .int .i64 d, .int .i64 o, .int .i64 ii] 25)).alloc (.cells #[.int .i64 u.k, .string u.frm, .string u.to, .int .i64 u.cost] 52)).cell? ⟨w.heap.size, 4, none⟩ = some (.int .i64 o) := BX.out.c 4 _ rfl
  have x5 : ((w.alloc (.cells #[.slice A R.length a, .slice B D.length b, .slice C E.length c, .int .i64 d, .int .i64 o, .int .i64 ii] 25)).alloc (.cells #[.int .i64 u.k, .string u.frm, .string u.to, .int .i64 u.cost] 52)).cell? ⟨w.heap.size, 5, none⟩ = some (.int .i64 ii) := BX.out.c 5 _ rfl
  have u0 : ((w.alloc (.cells #[.slice A R.length a, .slice B D.length b, .slice C E.length c, .int .i64 d, .int .i64 o, .int .i64 ii] 25)).alloc (.cells #[.int .i64 u.k, .string u.frm, .string u.to, .int .i64 u.cost] 52)).cell? ⟨w.heap.size + 1, 0, none⟩ = some (.int .i64 u.k) := UX.out.c 0 _ rfl
  have u1 : ((w.alloc (.cells #[.slice A R.length a, .slice B D.length b, .slice C E.length c, .int .i64 d, .int .i64 o, .int .i64 ii] 25)).alloc (.cells #[.int .i64 u.k, .string u.frm, .string u.to, .int .i64 u.cost] 52)).cell? ⟨w.heap.size + 1, 1, none⟩ = some (.string u.frm) := UX.out.c 1 _ rfl
  have u2 : ((w.alloc (.cells #[.slice A R.length a, .slice B D.length b, .slice C E.length c, .int .i64 d, .int .i64 o, .int .i64 ii] 25)).alloc (.cells #[.int .i64 u.k, .string u.frm, .string u.to, .int .i64 u.cost] 52)).cell? ⟨w.heap.size + 1, 2, none⟩ = some (.string u.to) := UX.out.c 2 _ rfl
  have u3 : ((w.alloc (.cells #[.slice A R.length a, .slice B D.length b, .slice C E.length c, .int .i64 d, .int .i64 o, .int .i64 ii] 25)).alloc (.cells #[.int .i64 u.k, .string u.frm, .string u.to, .int .i64 u.cost] 52)).cell? ⟨w.heap.size + 1, 3, none⟩ = some (.int .i64 u.cost) := UX.out.c 3 _ rfl
  go_enter Tryz.func8, Tryz.ntmps8
  go_wp2_with fail
  refine (C0.out _ HV.out).mono ?_
  rintro e w1 ⟨rfl, g⟩
  have UX' := Lib.hid (UX.out.bt g)
  clear UX u0 u1 u2 u3
  have UX := UX'
  clear UX'
  have HV' := Lib.hid (Nm.Nb HV.out g)
  have BX' := Lib.hid (BX.out.bt g)
  clear HV BX x0 x1 x2 x3 x4 x5
  have HV := HV'
  have BX := BX'
  clear HV' BX'
  have x0 : w1.cell? ⟨w.heap.size, 0, none⟩ = some (.slice A R.length a) := BX.out.c 0 _ rfl
  have x1 : w1.cell? ⟨w.heap.size, 1, none⟩ = some (.slice B D.length b) := BX.out.c 1 _ rfl
  have x2 : w1.cell? ⟨w.heap.size, 2, none⟩ = some (.slice C E.length c) := BX.out.c 2 _ rfl
  have x3 : w1.cell? ⟨w.heap.size, 3, none⟩ = some (.int .i64 d) := BX.out.c 3 _ rfl
  have x4 : w1.cell? ⟨w.heap.size, 4, none⟩ = some (.int .i64 o) := BX.out.c 4 _ rfl
  have x5 : w1.cell? ⟨w.heap.size, 5, none⟩ = some (.int .i64 ii) := BX.out.c 5 _ rfl
  have u0 : w1.cell? ⟨w.heap.size + 1, 0, none⟩ = some (.int .i64 u.k) := UX.out.c 0 _ rfl
  have u1 : w1.cell? ⟨w.heap.size + 1, 1, none⟩ = some (.string u.frm) := UX.out.c 1 _ rfl
  have u2 : w1.cell? ⟨w.heap.size + 1, 2, none⟩ = some (.string u.to) := UX.out.c 2 _ rfl
  have u3 : w1.cell? ⟨w.heap.size + 1, 3, none⟩ = some (.int .i64 u.cost) := UX.out.c 3 _ rfl
  clear g C0
  go_wp2_with fail
  refine (CF.out _ HV.out).mono ?_
  rintro e w2 ⟨rfl, g⟩
  have UX' := Lib.hid (UX.out.bt g)
  clear UX u0 u1 u2 u3
  have UX := UX'
  clear UX'
  have HV' := Lib.hid (Nm.Nb HV.out g)
  have BX' := Lib.hid (BX.out.bt g)
  clear HV BX x0 x1 x2 x3 x4 x5
  have HV := HV'
  have BX := BX'
  clear HV' BX'
  have x0 : w2.cell? ⟨w.heap.size, 0, none⟩ = some (.slice A R.length a) := BX.out.c 0 _ rfl
  have x1 : w2.cell? ⟨w.heap.size, 1, none⟩ = some (.slice B D.length b) := BX.out.c 1 _ rfl
  have x2 : w2.cell? ⟨w.heap.size, 2, none⟩ = some (.slice C E.length c) := BX.out.c 2 _ rfl
  have x3 : w2.cell? ⟨w.heap.size, 3, none⟩ = some (.int .i64 d) := BX.out.c 3 _ rfl
  have x4 : w2.cell? ⟨w.heap.size, 4, none⟩ = some (.int .i64 o) := BX.out.c 4 _ rfl
  have x5 : w2.cell? ⟨w.heap.size, 5, none⟩ = some (.int .i64 ii) := BX.out.c 5 _ rfl
  have u0 : w2.cell? ⟨w.heap.size + 1, 0, none⟩ = some (.int .i64 u.k) := UX.out.c 0 _ rfl
  have u1 : w2.cell? ⟨w.heap.size + 1, 1, none⟩ = some (.string u.frm) := UX.out.c 1 _ rfl
  have u2 : w2.cell? ⟨w.heap.size + 1, 2, none⟩ = some (.string u.to) := UX.out.c 2 _ rfl
  have u3 : w2.cell? ⟨w.heap.size + 1, 3, none⟩ = some (.int .i64 u.cost) := UX.out.c 3 _ rfl
  clear g CF
  cases fw with
  | false =>
    go_wp2
    go_ret
    exact ⟨rfl, HV.out⟩
  | true =>
  by_cases h60 : 60 < x.size
  · have h60i : (60 : Int) < (x.size : Int) := by omega
    go_wp2
    go_ret
    exact ⟨rfl, HV.out⟩
  have h60i : ¬ (60 : Int) < (x.size : Int) := by omega
  clear h60
  by_cases h61 : 60 < u.frm.size
  · have h61i : (60 : Int) < (u.frm.size : Int) := by omega
    go_wp2
    go_ret
    exact ⟨rfl, HV.out⟩
  have h61i : ¬ (60 : Int) < (u.frm.size : Int) := by omega
  clear h61
  by_cases h62 : 60 < u.to.size
  · have h62i : (60 : Int) < (u.to.size : Int) := by omega
    go_wp2
    go_ret
    exact ⟨rfl, HV.out⟩
  have h62i : ¬ (60 : Int) < (u.to.size : Int) := by omega
  clear h62
  go_wp2_with fail
  refine (CV.out _ HV.out).mono ?_
  rintro e w3 ⟨rfl, g⟩
  have UX' := Lib.hid (UX.out.bt g)
  clear UX u0 u1 u2 u3
  have UX := UX'
  clear UX'
  have HV' := Lib.hid (Nm.Nb HV.out g)
  have BX' := Lib.hid (BX.out.bt g)
  clear HV BX x0 x1 x2 x3 x4 x5
  have HV := HV'
  have BX := BX'
  clear HV' BX'
  have x0 : w3.cell? ⟨w.heap.size, 0, none⟩ = some (.slice A R.length a) := BX.out.c 0 _ rfl
  have x1 : w3.cell? ⟨w.heap.size, 1, none⟩ = some (.slice B D.length b) := BX.out.c 1 _ rfl
  have x2 : w3.cell? ⟨w.heap.size, 2, none⟩ = some (.slice C E.length c) := BX.out.c 2 _ rfl
  have x3 : w3.cell? ⟨w.heap.size, 3, none⟩ = some (.int .i64 d) := BX.out.c 3 _ rfl
  have x4 : w3.cell? ⟨w.heap.size, 4, none⟩ = some (.int .i64 o) := BX.out.c 4 _ rfl
  have x5 : w3.cell? ⟨w.heap.size, 5, none⟩ = some (.int .i64 ii) := BX.out.c 5 _ rfl
  have u0 : w3.cell? ⟨w.heap.size + 1, 0, none⟩ = some (.int .i64 u.k) := UX.out.c 0 _ rfl
  have u1 : w3.cell? ⟨w.heap.size + 1, 1, none⟩ = some (.string u.frm) := UX.out.c 1 _ rfl
  have u2 : w3.cell? ⟨w.heap.size + 1, 2, none⟩ = some (.string u.to) := UX.out.c 2 _ rfl
  have u3 : w3.cell? ⟨w.heap.size + 1, 3, none⟩ = some (.int .i64 u.cost) := UX.out.c 3 _ rfl
  clear g CV
  cases ok with
  | false =>
    go_wp2
    go_ret
    exact ⟨rfl, HV.out⟩
  | true =>
  go_wp2_with fail
  refine (C1.out _ HV.out).mono ?_
  rintro e w4 ⟨c1, ss, ms, A1, ca1, M1, cm1, n1, rfl, hg1, l1, l2, l3, s1, z1, g⟩
  have UX' := Lib.hid (UX.out.bt g)
  clear UX u0 u1 u2 u3
  have UX := UX'
  clear UX'
  have HV' := Lib.hid (Nm.Nb HV.out g)
  have BX' := Lib.hid (BX.out.bt g)
  clear HV BX x0 x1 x2 x3 x4 x5
  have HV := HV'
  have BX := BX'
  clear HV' BX'
  have x0 : w4.cell? ⟨w.heap.size, 0, none⟩ = some (.slice A R.length a) := BX.out.c 0 _ rfl
  have x1 : w4.cell? ⟨w.heap.size, 1, none⟩ = some (.slice B D.length b) := BX.out.c 1 _ rfl
  have x2 : w4.cell? ⟨w.heap.size, 2, none⟩ = some (.slice C E.length c) := BX.out.c 2 _ rfl
  have x3 : w4.cell? ⟨w.heap.size, 3, none⟩ = some (.int .i64 d) := BX.out.c 3 _ rfl
  have x4 : w4.cell? ⟨w.heap.size, 4, none⟩ = some (.int .i64 o) := BX.out.c 4 _ rfl
  have x5 : w4.cell? ⟨w.heap.size, 5, none⟩ = some (.int .i64 ii) := BX.out.c 5 _ rfl
  have u0 : w4.cell? ⟨w.heap.size + 1, 0, none⟩ = some (.int .i64 u.k) := UX.out.c 0 _ rfl
  have u1 : w4.cell? ⟨w.heap.size + 1, 1, none⟩ = some (.string u.frm) := UX.out.c 1 _ rfl
  have u2 : w4.cell? ⟨w.heap.size + 1, 2, none⟩ = some (.string u.to) := UX.out.c 2 _ rfl
  have u3 : w4.cell? ⟨w.heap.size + 1, 3, none⟩ = some (.int .i64 u.cost) := UX.out.c 3 _ rfl
  clear g C1
  have S1 := Lib.hid s1
  have Z1 := Lib.hid z1
  have G1 := Lib.hid (And.intro hg1 (And.intro l1 (And.intro l2 l3)))
  clear hg1 l1 l2 l3 s1 z1
  obtain ⟨hR1, hR80, hRf⟩ := Rw.okT_rl HOK.out
  simp only [← HTE.out] at hR1 hR80
  obtain ⟨nR, hnR⟩ : ∃ nR, R.length = nR := ⟨_, rfl⟩
  rw [hnR] at hR1 hR80 BX x0
  rw [hnR]
  have HNR := Lib.hid hnR
  clear hRf hnR
  have gN := Nm.al w4 (.cells #[.slice none 0 0, .slice B D.length b, .slice C E.length c, .int .i64 d, .int .i64 o, .int .i64 ii] 25)
  have b0n : (w4.alloc (.cells #[.slice none 0 0, .slice B D.length b, .slice C E.length c, .int .i64 d, .int .i64 o, .int .i64 ii] 25)).cell? ⟨w.heap.size, 0, none⟩ = some (.slice A nR a) := (BX.out.bt gN).c 0 _ rfl
  go_wp2_with fail
  clear x0 x1 x2 x3 x4 x5 u0 u1 u2 u3 b0n
  have BE : Rw.Bx (w4.alloc (.cells #[.slice none 0 0, .slice B D.length b, .slice C E.length c, .int .i64 d, .int .i64 o, .int .i64 ii] 25)) w4.heap.size #[.slice none 0 0, .slice B D.length b, .slice C E.length c, .int .i64 d, .int .i64 o, .int .i64 ii] 25 := heap_alloc_new _ _
  have HBE := Lib.hid BE
  have HSZ : Hid ((w4.alloc (.cells #[.slice none 0 0, .slice B D.length b, .slice C E.length c, .int .i64 d, .int .i64 o, .int .i64 ii] 25)).heap.size = w4.heap.size + 1) := Lib.hid (by simp)
  have HVN := Lib.hid (Nm.Nb HV.out gN)
  have HG5 := Lib.hid gN
  clear gN BE
  generalize w4.alloc (.cells #[.slice none 0 0, .slice B D.length b, .slice C E.length c, .int .i64 d, .int .i64 o, .int .i64 ii] 25) = V at *
  obtain ⟨E0, hE0⟩ : ∃ E0, w4.heap.size = E0 := ⟨_, rfl⟩
  have HEE := Lib.hid hE0
  rw [hE0]
  rw [hE0] at HBE HSZ
  clear hE0
  go_loopw [16] (fun s16 wr => ∃ (j : Nat) (uv : Value), j ≤ nR ∧ s16 = .int .i64 ((nR : Int) - 1 - (j : Int)) ∧ Hid (Rw.Bx wr E0 #[uv, .slice B D.length b, .slice C E.length c, .int .i64 d, .int .i64 o, .int .i64 ii] 25) ∧ Hid (Rw.OwnK Rw.KR wr (E0 + 1) uv (R.reverse.take j)) ∧ Hid (E0 + 1 ≤ wr.heap.size) ∧ Hid (Below E0 V wr)) (fun s16 _ => (intOf s16 + 1).toNat)
  case atStart => exact ⟨0, .slice none 0 0, by omega, by simp, HBE, Lib.hid (Rw.OwnK.nil _ _), Lib.hid (by rw [HSZ.out]; exact Nat.le_refl _), Lib.hid (Below.refl _ _)⟩
  case round =>
    obtain ⟨j, uv, hj, rfl, HE1, HO1, HS1, HW1⟩ := hrel
    have HW5 : Hid (Below w4.heap.size w4 wr) := Lib.hid (by rw [HEE.out]; exact (HEE.out ▸ HG5.out).trans HW1.out)
    have HB1 := Lib.hid (Nm.Nb HV.out HW5.out)
    by_cases hlt : j < nR
    · obtain ⟨q, hq⟩ : ∃ q : Nat, q = nR - 1 - j := ⟨_, rfl⟩
      have hqi : (nR : Int) - 1 - (j : Int) = (q : Int) := by omega
      have hqn : (q : Int) < (nR : Int) := by omega
      have hq0 : (0 : Int) ≤ (q : Int) := by omega
      rw [hqi]
      have hqR : q < R.length := by rw [HNR.out]; omega
      have hrow := (HIN.out w4 HV.out).r
      rw [← HTE.out] at hrow
      obtain ⟨ad, rfl, had, q0, q1, q2, q3⟩ := Rw.Rls.at hrow hqR
      have y0 := Nm.cell_bt q0 HW5.out
      have y1 := Nm.cell_bt q1 HW5.out
      have y2 := Nm.cell_bt q2 HW5.out
      have y3 := Nm.cell_bt q3 HW5.out
      clear q0 q1 q2 q3
      have b0 := (BX.out.bt HW5.out).c 0 _ rfl
      have htk : R.reverse.take (j + 1) = R.reverse.take j ++ [R[q]] := by
        rw [Rw.take_ext (show j < R.reverse.length by rw [List.length_reverse, HNR.out]; exact hlt), List.getElem_reverse]
        congr 3
        rw [HNR.out, hq]
      obtain ⟨y, hy⟩ : ∃ y, R[q] = y := ⟨_, rfl⟩
      rw [hy] at y0 y1 y2 y3 htk
      obtain ⟨g, cap, w3, hrun, s1, s2, s3, s4, s5, s6, s7⟩ := Rw.tab_round3 wr E0 (E0 + 1) E0 uv _ _ _ _ _ (R.reverse.take j) y HE1.out HO1.out (by omega) (Nat.le_refl _) HS1.out (by rw [List.length_take]; omega)
      have hl : (R.reverse.take j).length = j := by rw [List.length_take, List.length_reverse, HNR.out]; omega
      rw [hl] at hrun s3 s4 s5 s6
      have hA0 : Below E0 wr (wr.drew.alloc (.cells #[.int .i64 y.k, .string y.frm, .string y.to, .int .i64 y.cost] 52)) := (Below.refl E0 wr).drew.alloc (by have := HS1.out; show E0 ≤ wr.heap.size; omega) _
      have hadE : ad.block < E0 := by rw [← HEE.out]; exact had
      have hwE : w.heap.size < E0 := by have := HV.out.size; have := (BX.out.lt); have := HEE.out; omega
      have hk1 : ∀ p v, p.block < E0 → wr.cell? p = some v → (wr.alloc (.cells #[.int .i64 y.k, .string y.frm, .string y.to, .int .i64 y.cost] 52)).drew.cell? p = some v := fun p v hp h => (hA0.cell hp).trans h
      have hk3 : ∀ p v, p.block < E0 → wr.cell? p = some v → w3.cell? p = some v := fun p v hp h => (s7.cell hp).trans h
      have hk4 : ∀ p v, p.block < E0 → wr.cell? p = some v → (w3.setCell ⟨E0, 0, none⟩ (.slice (some ⟨g, 0, none⟩) (j + 1) cap)).cell? p = some v := fun p v hp h => (s5.cell hp).trans h
      have HN1 := Lib.hid s3
      have HN2 := Lib.hid (show Rw.OwnK Rw.KR _ _ _ (R.reverse.take (j + 1)) from by rw [htk]; exact s4)
      have HN3 := Lib.hid (HW1.out.trans s5)
      have HN4 := Lib.hid s6
      have c0 : wr.drew.cell? ⟨E0, 0, none⟩ = some uv := HE1.out.c 0 _ rfl
      have sa : (wr.alloc (.cells #[.int .i64 y.k, .string y.frm, .string y.to, .int .i64 y.cost] 52)).drew.cell? ⟨E0, 0, none⟩ = some uv := s1.c 0 _ rfl
      have sb := s2.c 0 _ rfl
      have sf := s2.f 0
      have bd : ∀ _ : Nat, (ad.add (q * 4)).block < E0 := fun _ => by rw [Rw.add_block]; exact hadE
      have SA : (wr.alloc (.cells #[.int .i64 y.k, .string y.frm, .string y.to, .int .i64 y.cost] 52)).drew.cell? ⟨w.heap.size, 0, none⟩ = some (.slice (some ad) nR a) ∧ (wr.alloc (.cells #[.int .i64 y.k, .string y.frm, .string y.to, .int .i64 y.cost] 52)).drew.cell? (ad.add (q * 4)) = some (.int .i64 y.k) ∧ (wr.alloc (.cells #[.int .i64 y.k, .string y.frm, .string y.to, .int .i64 y.cost] 52)).drew.cell? { block := (ad.add (q * 4)).block, off := (ad.add (q * 4)).off + 1 } = some (.string y.frm) ∧ (wr.alloc (.cells #[.int .i64 y.k, .string y.frm, .string y.to, .int .i64 y.cost] 52)).drew.cell? { block := (ad.add (q * 4)).block, off := (ad.add (q * 4)).off + 2 } = some (.string y.to) ∧ (wr.alloc (.cells #[.int .i64 y.k, .string y.frm, .string y.to, .int .i64 y.cost] 52)).drew.cell? { block := (ad.add (q * 4)).block, off := (ad.add (q * 4)).off + 3 } = some (.int .i64 y.cost) :=
        ⟨hk1 _ _ hwE b0, hk1 _ _ (bd 0) y0, hk1 _ _ (bd 0) y1, hk1 _ _ (bd 0) y2, hk1 _ _ (bd 0) y3⟩
      have S3 : w3.cell? ⟨w.heap.size, 0, none⟩ = some (.slice (some ad) nR a) ∧ w3.cell? (ad.add (q * 4)) = some (.int .i64 y.k) ∧ w3.cell? { block := (ad.add (q * 4)).block, off := (ad.add (q * 4)).off + 1 } = some (.string y.frm) ∧ w3.cell? { block := (ad.add (q * 4)).block, off := (ad.add (q * 4)).off + 2 } = some (.string y.to) ∧ w3.cell? { block := (ad.add (q * 4)).block, off := (ad.add (q * 4)).off + 3 } = some (.int .i64 y.cost) :=
        ⟨hk3 _ _ hwE b0, hk3 _ _ (bd 0) y0, hk3 _ _ (bd 0) y1, hk3 _ _ (bd 0) y2, hk3 _ _ (bd 0) y3⟩
      have S4 : (w3.setCell ⟨E0, 0, none⟩ (.slice (some ⟨g, 0, none⟩) (j + 1) cap)).cell? ⟨w.heap.size, 0, none⟩ = some (.slice (some ad) nR a) ∧ (w3.setCell ⟨E0, 0, none⟩ (.slice (some ⟨g, 0, none⟩) (j + 1) cap)).cell? (ad.add (q * 4)) = some (.int .i64 y.k) ∧ (w3.setCell ⟨E0, 0, none⟩ (.slice (some ⟨g, 0, none⟩) (j + 1) cap)).cell? { block := (ad.add (q * 4)).block, off := (ad.add (q * 4)).off + 1 } = some (.string y.frm) ∧ (w3.setCell ⟨E0, 0, none⟩ (.slice (some ⟨g, 0, none⟩) (j + 1) cap)).cell? { block := (ad.add (q * 4)).block, off := (ad.add (q * 4)).off + 2 } = some (.string y.to) ∧ (w3.setCell ⟨E0, 0, none⟩ (.slice (some ⟨g, 0, none⟩) (j + 1) cap)).cell? { block := (ad.add (q * 4)).block, off := (ad.add (q * 4)).off + 3 } = some (.int .i64 y.cost) :=
        ⟨hk4 _ _ hwE b0, hk4 _ _ (bd 0) y0, hk4 _ _ (bd 0) y1, hk4 _ _ (bd 0) y2, hk4 _ _ (bd 0) y3⟩
      have S0 : wr.drew.cell? ⟨w.heap.size, 0, none⟩ = some (.slice (some ad) nR a) ∧ wr.drew.cell? (ad.add (q * 4)) = some (.int .i64 y.k) ∧ wr.drew.cell? { block := (ad.add (q * 4)).block, off := (ad.add (q * 4)).off + 1 } = some (.string y.frm) ∧ wr.drew.cell? { block := (ad.add (q * 4)).block, off := (ad.add (q * 4)).off + 2 } = some (.string y.to) ∧ wr.drew.cell? { block := (ad.add (q * 4)).block, off := (ad.add (q * 4)).off + 3 } = some (.int .i64 y.cost) := ⟨b0, y0, y1, y2, y3⟩
      replace hrun : (Builtin.append_ #[22, 22] 22 #[uv, .slice (some ⟨wr.heap.size, 0, none⟩) 1 1]).run Tryz.prog (wr.alloc (.cells #[.int .i64 y.k, .string y.frm, .string y.to, .int .i64 y.cost] 52)).drew = .ok (.slice (some ⟨g, 0, none⟩) (j + 1) cap) w3 := hrun
      have HQ := Lib.hid hq
      clear s1 s2 s3 s4 s5 s6 s7 hl htk hk1 hk3 hk4 hA0 hrow hqR hy b0 y0 y1 y2 y3 bd had hadE hqi hq
      go_wp2_with fail
      refine wp_region_held_drew (S := fun w' => w'.cell? ⟨w.heap.size, 0, none⟩ = some (.slice (some ad) nR a) ∧ w'.cell? (ad.add (q * 4)) = some (.int .i64 y.k) ∧ w'.cell? { block := (ad.add (q * 4)).block, off := (ad.add (q * 4)).off + 1 } = some (.string y.frm) ∧ w'.cell? { block := (ad.add (q * 4)).block, off := (ad.add (q * 4)).off + 2 } = some (.string y.to) ∧ w'.cell? { block := (ad.add (q * 4)).block, off := (ad.add (q * 4)).off + 3 } = some (.int .i64 y.cost)) (by kernel_rfl) S0 (fun hH => ?_)
      refine wpAnyH_take (i := 0) (v := ?v0) rfl (by kernel_rfl) (by kernel_rfl) (by kernel_rfl) (fun _ _ _ h => h) (Or.inl ⟨by rfl, ?hy0⟩) hH ?rest0
      case hy0 =>
        intro w' hSw
        obtain ⟨z1, z2, z3, z4, z5⟩ := hSw
        go_simp
        try with_reducible rfl
      try simp only [Act.put, List.setIfInBounds_toArray, List.set_cons_zero, List.set_cons_succ]
      refine wpAnyH_take (i := 2) (v := ?v2) rfl (by kernel_rfl) (by kernel_rfl) (by kernel_rfl) (fun _ _ _ h => h) (Or.inl ⟨by rfl, ?hy2⟩) hH ?rest2
      case hy2 =>
        intro w' hSw
        obtain ⟨z1, z2, z3, z4, z5⟩ := hSw
        go_simp
        try with_reducible rfl
      try simp only [Act.put, List.setIfInBounds_toArray, List.set_cons_zero, List.set_cons_succ]
      refine wpAnyH_take (i := 3) (v := ?v3) rfl (by kernel_rfl) (by kernel_rfl) (by kernel_rfl) (fun _ _ _ h => h) (Or.inl ⟨by rfl, ?hy3⟩) hH ?rest3
      case hy3 =>
        intro w' hSw
        obtain ⟨z1, z2, z3, z4, z5⟩ := hSw
        go_simp
        try with_reducible rfl
      try simp only [Act.put, List.setIfInBounds_toArray, List.set_cons_zero, List.set_cons_succ]
      refine wpAnyH_take (i := 4) (v := ?v4) rfl (by kernel_rfl) (by kernel_rfl) (by kernel_rfl) (fun _ _ _ h => h) (Or.inl ⟨by rfl, ?hy4⟩) hH ?rest4
      case hy4 =>
        intro w' hSw
        obtain ⟨z1, z2, z3, z4, z5⟩ := hSw
        go_simp
        try with_reducible rfl
      try simp only [Act.put, List.setIfInBounds_toArray, List.set_cons_zero, List.set_cons_succ]
      refine wpAnyH_take (i := 5) (v := ?v5) rfl (by kernel_rfl) (by kernel_rfl) (by kernel_rfl) (fun _ _ _ h => h) (Or.inl ⟨by rfl, ?hy5⟩) hH ?rest5
      case hy5 =>
        intro w' hSw
        obtain ⟨z1, z2, z3, z4, z5⟩ := hSw
        go_simp
        try with_reducible rfl
      try simp only [Act.put, List.setIfInBounds_toArray, List.set_cons_zero, List.set_cons_succ]
      refine wpAnyH_take (i := 6) (v := ?v6) rfl (by kernel_rfl) (by kernel_rfl) (by kernel_rfl) (fun _ _ _ h => h) (Or.inl ⟨by rfl, ?hy6⟩) hH ?rest6
      case hy6 =>
        intro w' hSw
        obtain ⟨z1, z2, z3, z4, z5⟩ := hSw
        go_simp
        try with_reducible rfl
      try simp only [Act.put, List.setIfInBounds_toArray, List.set_cons_zero, List.set_cons_succ]
      refine wpAnyH_ready (rs := [1, 7]) (by kernel_rfl) (by simp) ?_
      refine AllReadyH.cons (i := 1) rfl (fun K hK => ?_) (AllReadyH.cons (i := 7) rfl (fun K hK => ?_) (AllReadyH.nil))
      · go_simp
        refine hK.out _ _ hH (fun hH => ?_)
        try simp only [Act.put, List.setIfInBounds_toArray, List.set_cons_zero, List.set_cons_succ]
        refine wpAnyH_ready (rs := [7]) (by kernel_rfl) (by simp) ?_
        refine AllReadyH.cons (i := 7) rfl (fun K hK => ?_) (AllReadyH.nil)
        go_simp
        refine hK.out _ _ SA (fun hH => ?_)
        try simp only [Act.put, List.setIfInBounds_toArray, List.set_cons_zero, List.set_cons_succ]
        refine wpAnyH_ready (rs := [8]) (by kernel_rfl) (by simp) ?_
        refine AllReadyH.cons (i := 8) rfl (fun K hK => ?_) (AllReadyH.nil)
        go_simp
        refine hK.out _ _ S3 (fun hH => ?_)
        try simp only [Act.put, List.setIfInBounds_toArray, List.set_cons_zero, List.set_cons_succ]
        refine wpAnyH_take (i := 9) (v := ?v9a) rfl (by kernel_rfl) (by kernel_rfl) (by kernel_rfl) (fun _ _ _ h => h) (Or.inl ⟨by rfl, ?hy9a⟩) hH ?rest9a
        case hy9a =>
          intro w' hSw
          obtain ⟨z1, z2, z3, z4, z5⟩ := hSw
          go_simp
          try with_reducible rfl
        try simp only [Act.put, List.setIfInBounds_toArray, List.set_cons_zero, List.set_cons_succ]
        refine wpAnyH_ready (rs := [10]) (by kernel_rfl) (by simp) ?_
        refine AllReadyH.cons (i := 10) rfl (fun K hK => ?_) (AllReadyH.nil)
        go_simp
        refine hK.out _ _ S4 (fun hH => ?_)
        try simp only [Act.put, List.setIfInBounds_toArray, List.set_cons_zero, List.set_cons_succ]
        refine wpAnyH_done (by kernel_rfl) ?_ _
        go_wp2_with fail
        go_roundw
        case rel => exact ⟨j + 1, _, by omega, by have hq := HQ.out; refine congrArg (Value.int .i64) ?_; omega, HN1, HN2, HN4, HN3⟩
        case measure => simp [intOf] <;> omega
      · go_simp
        refine hK.out _ _ SA (fun hH => ?_)
        try simp only [Act.put, List.setIfInBounds_toArray, List.set_cons_zero, List.set_cons_succ]
        refine wpAnyH_ready (rs := [1]) (by kernel_rfl) (by simp) ?_
        refine AllReadyH.cons (i := 1) rfl (fun K hK => ?_) (AllReadyH.nil)
        go_simp
        refine hK.out _ _ hH (fun hH => ?_)
        try simp only [Act.put, List.setIfInBounds_toArray, List.set_cons_zero, List.set_cons_succ]
        refine wpAnyH_ready (rs := [8]) (by kernel_rfl) (by simp) ?_
        refine AllReadyH.cons (i := 8) rfl (fun K hK => ?_) (AllReadyH.nil)
        go_simp
        refine hK.out _ _ S3 (fun hH => ?_)
        try simp only [Act.put, List.setIfInBounds_toArray, List.set_cons_zero, List.set_cons_succ]
        refine wpAnyH_take (i := 9) (v := ?v9b) rfl (by kernel_rfl) (by kernel_rfl) (by kernel_rfl) (fun _ _ _ h => h) (Or.inl ⟨by rfl, ?hy9b⟩) hH ?rest9b
        case hy9b =>
          intro w' hSw
          obtain ⟨z1, z2, z3, z4, z5⟩ := hSw
          go_simp
          try with_reducible rfl
        try simp only [Act.put, List.setIfInBounds_toArray, List.set_cons_zero, List.set_cons_succ]
        refine wpAnyH_ready (rs := [10]) (by kernel_rfl) (by simp) ?_
        refine AllReadyH.cons (i := 10) rfl (fun K hK => ?_) (AllReadyH.nil)
        go_simp
        refine hK.out _ _ S4 (fun hH => ?_)
        try simp only [Act.put, List.setIfInBounds_toArray, List.set_cons_zero, List.set_cons_succ]
        refine wpAnyH_done (by kernel_rfl) ?_ _
        go_wp2_with fail
        go_roundw
        case rel => exact ⟨j + 1, _, by omega, by have hq := HQ.out; refine congrArg (Value.int .i64) ?_; omega, HN1, HN2, HN4, HN3⟩
        case measure => simp [intOf] <;> omega
    · obtain rfl : nR = j := by omega
      have hneg : (nR : Int) - 1 - (nR : Int) = -1 := by omega
      rw [hneg]
      have htk : R.reverse.take nR = R.reverse := List.take_of_length_le (by rw [List.length_reverse, HNR.out]; exact Nat.le_refl _)
      rw [htk] at HO1
      obtain ⟨RR, hRR⟩ : ∃ RR, R.reverse = RR := ⟨_, rfl⟩
      rw [hRR] at HO1
      have hRL : RR.length = nR := by rw [← hRR, List.length_reverse]; exact HNR.out
      have HRR := Lib.hid (And.intro hRR hRL)
      obtain ⟨A', c', rfl, rls', hc1, hc2⟩ := HO1.out.rls
      rw [hRL] at hc1 HO1 HE1
      have hin := HIN.out wr HB1.out
      rw [← HTE.out] at hin
      have htb : Rw.TV.In ⟨A', c', B, b, C, c, RR, D, E, d, o, ii⟩ wr := ⟨rls', hin.d, hin.e, fun z hz => hin.gr z (List.mem_reverse.1 (hRR ▸ hz)), hin.gd, hin.ge, by show RR.length ≤ c'; rw [hRL]; exact hc1, hin.lb, hin.lc, hc2, hin.mb, hin.mc⟩
      have C4 := Rw.forms_gi ⟨A', c', B, b, C, c, RR, D, E, d, o, ii⟩ k x most wr htb (HP.out wr HB1.out).tb HWX.out
      rw [show (Rw.TV.val ⟨A', c', B, b, C, c, RR, D, E, d, o, ii⟩ : Value) = .agg #[.slice A' nR c', .slice B D.length b, .slice C E.length c, .int .i64 d, .int .i64 o, .int .i64 ii] from by show Value.agg _ = _; rw [hRL]] at C4
      have C4 := Lib.hid C4
      have e0 : wr.cell? ⟨E0, 0, none⟩ = some (.slice A' nR c') := HE1.out.c 0 _ rfl
      have e1 : wr.cell? ⟨E0, 1, none⟩ = some (.slice B D.length b) := HE1.out.c 1 _ rfl
      have e2 : wr.cell? ⟨E0, 2, none⟩ = some (.slice C E.length c) := HE1.out.c 2 _ rfl
      have e3 : wr.cell? ⟨E0, 3, none⟩ = some (.int .i64 d) := HE1.out.c 3 _ rfl
      have e4 : wr.cell? ⟨E0, 4, none⟩ = some (.int .i64 o) := HE1.out.c 4 _ rfl
      have e5 : wr.cell? ⟨E0, 5, none⟩ = some (.int .i64 ii) := HE1.out.c 5 _ rfl
      clear hin htb rls' hc1 hc2 hRR htk hneg
      go_wp2_with fail
      refine C4.out.mono ?_
      rintro e w7 ⟨c2, ts, ns, A2, ca2, M2, cm2, n2, rfl, hg2, m1, m2, m3, s2, z2, g⟩
      have hL : Rw.isL ⟨A', c', B, b, C, c, RR, D, E, d, o, ii⟩ k x = Rw.isL t k x := by
        unfold Rw.isL
        rw [← HTE.out, ← HRR.out.1, Rw.okT_rev A A' B C a c' b c R D E d o ii]
      obtain ⟨rfl, rfl, rfl⟩ := G1.out.1.one (hg2.turn hL (fun r => by rw [← HTE.out]; show r ∈ Rw.rus k RR ↔ _; rw [← HRR.out.1]; exact Rw.rus_rev r))
      obtain rfl : n1 = n2 := by rw [← m1]; exact G1.out.2.1.symm
      have HW7 := Lib.hid (HW5.out.trans (g.mono HW5.out.size))
      have BE7 := Lib.hid (HE1.out.bt g)
      have HO7 := Lib.hid (HO1.out.bt g)
      have SF := Rw.sameForms_any A1 ca1 ss M1 cm1 ms A2 ca2 ss M2 cm2 ms n1 n1 n1 n1 G1.out.2.1 G1.out.2.2.1 G1.out.2.1 G1.out.2.2.1 w7 (Nm.sbt S1.out HW7.out) (Rw.Zs.bt Z1.out HW7.out) s2 z2 (by have := G1.out.2.2.2; omega)
      rw [Rw.sameF_self ss ms (by rw [G1.out.2.1]; exact G1.out.2.2.1)] at SF
      have SF := Lib.hid SF
      have HS7 := Lib.hid (Nat.le_trans HS1.out g.size)
      clear hL hg2 m1 m2 m3 s2 z2 g e0 e1 e2 e3 e4 e5 C4 HE1 HO1 HS1 HW1 HB1
      go_wp2_with fail
      refine SF.out.mono ?_
      rintro e w8 ⟨rfl, g⟩
      have HW8 := Lib.hid (HW7.out.trans (g.mono HW7.out.size))
      have BE8 := Lib.hid (BE7.out.bt g)
      have HO8 := Lib.hid (HO7.out.bt g)
      have HS8 := Lib.hid (Nat.le_trans HS7.out g.size)
      have e0 : w8.cell? ⟨E0, 0, none⟩ = some (.slice A' nR c') := BE8.out.c 0 _ rfl
      have u0 : w8.cell? ⟨w.heap.size + 1, 0, none⟩ = some (.int .i64 u.k) := (UX.out.bt HW8.out).c 0 _ rfl
      have u1 : w8.cell? ⟨w.heap.size + 1, 1, none⟩ = some (.string u.frm) := (UX.out.bt HW8.out).c 1 _ rfl
      have u2 : w8.cell? ⟨w.heap.size + 1, 2, none⟩ = some (.string u.to) := (UX.out.bt HW8.out).c 2 _ rfl
      have u3 : w8.cell? ⟨w.heap.size + 1, 3, none⟩ = some (.int .i64 u.cost) := (UX.out.bt HW8.out).c 3 _ rfl
      have g4 := Nm.al w8 (.cells #[.int .i64 u.k, .string u.frm, .string u.to, .int .i64 u.cost] 52)
      have HO5 := Lib.hid (HO8.out.bt g4)
      have HNW : Hid ((w8.alloc (.cells #[.int .i64 u.k, .string u.frm, .string u.to, .int .i64 u.cost] 52)).heap[w8.heap.size]? = some (.cells (Rw.KR.cs u).toArray 52 (0, 0))) := Lib.hid (heap_alloc_new _ _)
      have HRL : Hid (RR.length ≤ 1000000) := Lib.hid (by rw [HRR.out.2]; omega)
      have HS9 := Lib.hid (show E0 + 1 ≤ (w8.alloc (.cells #[.int .i64 u.k, .string u.frm, .string u.to, .int .i64 u.cost] 52)).heap.size from Nat.le_trans HS8.out g4.size)
      have HW9 := Lib.hid (HW8.out.trans (g4.mono HW8.out.size))
      have BE9 := Lib.hid (BE8.out.bt g4)
      clear g g4 SF HW7 BE7 HO7 HS7 BE8 HO8 HS8
      go_wp2_with (first
        | (at_builtin
           refine Rw.list_appendA Rw.okR rfl (.tmp 102) (.tmp 104) rfl (E0 + 1) _ RR rfl HO5.out w8.heap.size rfl u _ HNW.out HRL.out HS9.out ?_
           intro v9 w9 o9 g9 _
           obtain ⟨LL, hLL⟩ : ∃ LL, RR ++ [u] = LL := ⟨_, rfl⟩
           rw [hLL] at o9
           have hll : LL.length = nR + 1 := by rw [← hLL, List.length_append, HRR.out.2]; rfl
           obtain ⟨A9, c9, rfl, _, d1, d2⟩ := o9.rls
           rw [hll] at o9 d1
           rw [hll]
           have e0 : w9.cell? ⟨E0, 0, none⟩ = some (.slice A' nR c') := (BE9.out.below g9 (by omega)).c 0 _ rfl
           have e1 : w9.cell? ⟨E0, 1, none⟩ = some (.slice B D.length b) := (BE9.out.below g9 (by omega)).c 1 _ rfl
           have e2 : w9.cell? ⟨E0, 2, none⟩ = some (.slice C E.length c) := (BE9.out.below g9 (by omega)).c 2 _ rfl
           have e3 : w9.cell? ⟨E0, 3, none⟩ = some (.int .i64 d) := (BE9.out.below g9 (by omega)).c 3 _ rfl
           have e4 : w9.cell? ⟨E0, 4, none⟩ = some (.int .i64 o) := (BE9.out.below g9 (by omega)).c 4 _ rfl
           have e5 : w9.cell? ⟨E0, 5, none⟩ = some (.int .i64 ii) := (BE9.out.below g9 (by omega)).c 5 _ rfl
           have ef := (BE9.out.below g9 (by omega)).f
           have HO9 := Lib.hid (And.intro hLL (And.intro hll (And.intro o9 (And.intro d1 (And.intro d2 (And.intro (BE9.out.below g9 (by omega)) g9))))))
           clear o9 g9 hLL hll d1 d2 HO5 HNW HRL)
        | fail)
      obtain ⟨hLL, hll, o9, d1, d2, be9, g9⟩ := HO9.out
      have oW := o9.set ⟨E0, 0, none⟩ (Nat.lt_succ_self E0) (.slice A9 (nR + 1) c9)
      have beW := be9.put (i := 0) (.slice A9 (nR + 1) c9)
      simp only [List.setIfInBounds_toArray, List.set_cons_zero] at beW
      have gW : Below w4.heap.size w4 (w9.setCell ⟨E0, 0, none⟩ (.slice A9 (nR + 1) c9)) := (HW9.out.trans (g9.mono (by rw [HEE.out]; exact Nat.le_succ _))).setCell (p := ⟨E0, 0, none⟩) (by rw [HEE.out]; exact Nat.le_refl _) _
      generalize w9.setCell ⟨E0, 0, none⟩ (.slice A9 (nR + 1) c9) = WW at *
      have HGW := Lib.hid gW
      have HBE := Lib.hid beW
      have HBW := Lib.hid (Nm.Nb HV.out gW)
      have oW' : Rw.OwnK Rw.KR WW (E0 + 1) (.slice A9 LL.length c9) LL := by rw [hll]; exact oW
      obtain ⟨A'', c'', e', rls', _, _⟩ := Rw.OwnK.rls oW'
      simp only [Value.slice.injEq] at e'
      obtain ⟨rfl, _, rfl⟩ := e'
      have hin := HIN.out WW HBW.out
      rw [← HTE.out] at hin
      have htb : Rw.TV.In ⟨A9, c9, B, b, C, c, LL, D, E, d, o, ii⟩ WW := ⟨rls', hin.d, hin.e, fun z hz => by
        rw [← hLL] at hz
        rcases List.mem_append.1 hz with h | h
        · exact hin.gr z (List.mem_reverse.1 (HRR.out.1 ▸ h))
        · rw [List.mem_singleton.1 h]; exact HU.out, hin.gd, hin.ge, by show LL.length ≤ c9; rw [hll]; exact d1, hin.lb, hin.lc, d2, hin.mb, hin.mc⟩
      have C5 := Rw.forms_gi ⟨A9, c9, B, b, C, c, LL, D, E, d, o, ii⟩ k x most WW htb (HP.out WW HBW.out).tb HWX.out
      have HTB := Lib.hid (fun v (g : Below WW.heap.size WW v) => htb.bt g)
      obtain ⟨ok2, hok2⟩ : ∃ ok2, Rw.okT ⟨A9, c9, B, b, C, c, LL, D, E, d, o, ii⟩ = ok2 := ⟨_, rfl⟩
      have C6 := Lib.hid (fun v (g : Below WW.heap.size WW v) => Rw.validT_any ⟨A9, c9, B, b, C, c, LL, D, E, d, o, ii⟩ v (htb.bt g) (HP.out v (Nm.Nb HBW.out g)).tb)
      have hvb : (Rw.TV.val ⟨A9, c9, B, b, C, c, LL, D, E, d, o, ii⟩ : Value) = .agg #[.slice A9 (nR + 1) c9, .slice B D.length b, .slice C E.length c, .int .i64 d, .int .i64 o, .int .i64 ii] := by show Value.agg _ = _; rw [hll]
      rw [hvb] at C5 C6
      rw [hok2] at C6
      have C5 := Lib.hid C5
      have HOK2 := Lib.hid hok2
      have HLL := Lib.hid hLL
      clear hin htb rls' hvb hok2 hLL hll o9 d1 d2 be9 g9 oW oW' beW gW HO9 HS9 HW9 BE9 u0 u1 u2 u3
      refine C5.out.mono ?_
      rintro e wa ⟨c3, ps, qs, A5, ca5, M5, cm5, n5, rfl, hg3, p1, p2, p3, s5, z5, g⟩
      have S5 := Lib.hid s5
      have Z5 := Lib.hid z5
      have HGa := Lib.hid (HGW.out.trans (g.mono HGW.out.size))
      have HBa := Lib.hid (Nm.Nb HBW.out g)
      have HGb := Lib.hid g
      have e0 : wa.cell? ⟨E0, 0, none⟩ = some (.slice A9 (nR + 1) c9) := (HBE.out.bt g).c 0 _ rfl
      have e1 : wa.cell? ⟨E0, 1, none⟩ = some (.slice B D.length b) := (HBE.out.bt g).c 1 _ rfl
      have e2 : wa.cell? ⟨E0, 2, none⟩ = some (.slice C E.length c) := (HBE.out.bt g).c 2 _ rfl
      have e3 : wa.cell? ⟨E0, 3, none⟩ = some (.int .i64 d) := (HBE.out.bt g).c 3 _ rfl
      have e4 : wa.cell? ⟨E0, 4, none⟩ = some (.int .i64 o) := (HBE.out.bt g).c 4 _ rfl
      have e5 : wa.cell? ⟨E0, 5, none⟩ = some (.int .i64 ii) := (HBE.out.bt g).c 5 _ rfl
      clear s5 z5 g C5
      go_wp2_with fail
      refine (C6.out wa HGb.out).mono ?_
      rintro e wb ⟨rfl, g⟩
      have HG := Lib.hid (HGa.out.trans (g.mono HGa.out.size))
      have HB := Lib.hid (Nm.Nb HBa.out g)
      have S5' := Lib.hid (Nm.sbt S5.out g)
      have Z5' := Lib.hid (Rw.Zs.bt Z5.out g)
      have S1' := Lib.hid (Nm.sbt S1.out HG.out)
      have Z1' := Lib.hid (Rw.Zs.bt Z1.out HG.out)
      clear S5 Z5 S1 Z1 g e0 e1 e2 e3 e4 e5 C6
      have S5 := S5'
      have Z5 := Z5'
      have S1 := S1'
      have Z1 := Z1'
      clear S5' Z5' S1' Z1'
      cases ok2 with
      | false =>
        obtain rfl := hg3.bad HOK2.out
        go_wp2
        go_ret
        exact ⟨rfl, HB.out⟩
      | true =>
      have HL2 : Hid (Rw.isL ⟨A9, c9, B, b, C, c, LL, D, E, d, o, ii⟩ k x = Rw.isL t k x) := Lib.hid (by unfold Rw.isL; rw [HOK2.out, HOK.out])
      have HSUB : Hid (∀ r ∈ Rw.rus k t.R, r ∈ Rw.rus k (Rw.TV.mk A9 c9 B b C c LL D E d o ii).R) := Lib.hid (fun r hr => by
        rw [← HTE.out] at hr
        show r ∈ Rw.rus k LL
        rw [← HLL.out, ← HRR.out.1]
        exact Rw.rus_sub r hr)
      have u0 : wb.cell? ⟨w.heap.size + 1, 0, none⟩ = some (.int .i64 u.k) := (UX.out.bt HG.out).c 0 _ rfl
      by_cases hk : u.k = k
      · have hkb : (u.k == k) = true := by simp [hk]
        have hkn : (u.k != k) = false := by simp [hk]
        rcases G1.out.1.errs hg3 HL2.out HSUB.out with ⟨rfl, rfl | rfl⟩ | ⟨hc, rfl⟩
        · obtain ⟨ho1, ho2, hk⟩ := G1.out.1.kept hg3 HSUB.out
          have HOO := Lib.hid (And.intro ho1 (And.intro ho2 hk))
          have HLS := Lib.hid (And.intro G1.out.2.1 (And.intro G1.out.2.2.1 (And.intro p1 p2)))
          have hn1 : n1 ≤ 1000 := G1.out.2.2.2
          have hn5 : n5 ≤ 1000 := p3
          clear ho1 ho2 hk hg3 p1 p2 p3
          go_wp2
          generalize hWR : wb = V2 at *
          clear hWR
          go_loopw [23, 24] (fun s23 s24 wr => ∃ (i q : Nat), i ≤ n1 ∧ q ≤ n5 ∧ s23 = .int .i64 (q : Int) ∧ s24 = .int .i64 (i : Int) ∧ Hid (Rw.Pre ss ps i q) ∧ Hid (Below V2.heap.size V2 wr)) (fun _ s24 _ => n1 - (intOf s24).toNat)
          case atStart => exact ⟨0, 0, by omega, by omega, rfl, rfl, Lib.hid (fun j h => absurd h (by omega)), Lib.hid (Below.refl _ _)⟩
          case round =>
            obtain ⟨i, q, hi, hq, rfl, rfl, HPR, HW⟩ := hrel
            by_cases hlt : i < n1
            · have hi1 : i < ss.length := by rw [HLS.out.1]; exact hlt
              have hi2 : i < ms.length := by rw [HLS.out.2.1]; exact hlt
              obtain ⟨sd, rfl, hsd, y0⟩ := S1.out i hi1
              obtain ⟨md, rfl, hmd, z0⟩ := Z1.out i hi2
              have hgd : ss.getD i ByteArray.empty = ss[i] := by rw [List.getD_eq_getElem?_getD, List.getElem?_eq_getElem hi1]; rfl
              rw [hgd] at y0
              obtain ⟨r, hr, hr2, hre, hrc⟩ := HOO.out.2.2 i hi1 hi2
              have HR := Lib.hid (And.intro (show ∃ h : r < ps.length, ps[r] = ss[i] from ⟨hr, hre⟩) hrc)
              obtain ⟨y, hy⟩ : ∃ y, ss[i] = y := ⟨_, rfl⟩
              obtain ⟨z, hz⟩ : ∃ z, ms[i] = z := ⟨_, rfl⟩
              have HY := Lib.hid (show ∀ h : i < ss.length, ss[i] = y from fun _ => hy)
              rw [hy] at y0 hre
              rw [hz] at z0 hrc
              have y0 := Nm.cell_bt y0 HW.out
              have z0 := Nm.cell_bt z0 HW.out
              have hrn : r < n5 := by rw [← HLS.out.2.2.1]; exact hr
              have HRE := Lib.hid (And.intro (show ∀ h : r < ps.length, ps[r] = y from fun _ => hre) (show ∀ h : r < qs.length, qs[r] ≤ z from fun _ => hrc))
              clear hgd hre hrc hy hz hi1 hi2 hr hr2 HR
              go_wp2
              go_loopw [23] (fun s23 wq => ∃ q : Nat, q ≤ n5 ∧ s23 = .int .i64 (q : Int) ∧ Hid (Rw.Pre ss ps i q) ∧ Hid (Below V2.heap.size V2 wq) ∧ wq.cell? (sd.add i) = some (.string y) ∧ wq.cell? (md.add i) = some (.int .i64 z)) (fun s23 _ => n5 - (intOf s23).toNat)
              case atStart => exact ⟨q, hq, rfl, HPR, HW, y0, z0⟩
              case round =>
                clear HPR HW y0 z0 hq
                obtain ⟨q, hq, rfl, HPR, HW, y0, z0⟩ := hrel
                by_cases hqn : q < n5
                · have hq1 : q < ps.length := by rw [HLS.out.2.2.1]; exact hqn
                  have hq2 : q < qs.length := by rw [HLS.out.2.2.2]; exact hqn
                  obtain ⟨pd, rfl, hpd, v2⟩ := S5.out q hq1
                  obtain ⟨qd, rfl, hqd, v3⟩ := Z5.out q hq2
                  have hgd : ps.getD q ByteArray.empty = ps[q] := by rw [List.getD_eq_getElem?_getD, List.getElem?_eq_getElem hq1]; rfl
                  rw [hgd] at v2
                  have v0 := Nm.cell_bt v2 HW.out
                  have v1 := Nm.cell_bt v3 HW.out
                  clear v2 v3
                  by_cases hless : ps[q].data.toList < (ss[i]'(by rw [HLS.out.1]; exact hlt)).data.toList
                  · have HPN : Hid (Rw.Pre ss ps i (q + 1)) := Lib.hid (HPR.out.step HOO.out.1 (by rw [HLS.out.1]; exact hlt) hq1 hless)
                    rw [HY.out] at hless
                    obtain ⟨p, hp⟩ : ∃ p, ps[q] = p := ⟨_, rfl⟩
                    rw [hp] at v0 hless
                    have hbl : Op.bytesLess p.toList y.toList = true := by rw [Rw.less_eq]; exact decide_eq_true hless
                    have y0' : (wr.drewN 0).cell? (sd.add i) = some (.string y) := y0
                    clear hp hgd hless v1 hq1 hq2 HPR
                    go_wp2
                    go_quiet (fail)
                    go_wp2
                    exact ⟨⟨q + 1, by omega, by go_num, HPN, Lib.hid (Nm.drewB HW.out _), y0, z0⟩, by simp [intOf]; omega⟩
                  · have hqr : q = r := HPR.out.meet HOO.out.2.1 (by rw [HLS.out.1]; exact hlt) hq1 (by rw [HLS.out.2.2.1]; exact hrn) (by rw [HRE.out.1, HY.out]) hless
                    subst hqr
                    have hpy : ps[q] = y := HRE.out.1 hq1
                    have hqz : qs[q] ≤ z := HRE.out.2 hq2
                    rw [HY.out, hpy] at hless
                    rw [hpy] at v0
                    have hbl : Op.bytesLess y.toList y.toList = false := by rw [Rw.less_eq]; exact decide_eq_false hless
                    obtain ⟨z5, hz5⟩ : ∃ z5, qs[q] = z5 := ⟨_, rfl⟩
                    rw [hz5] at v1 hqz
                    have hzz : ¬ z < z5 := by omega
                    have HPN : Hid (Rw.Pre ss ps (i + 1) q) := Lib.hid (HPR.out.later)
                    have hqi : (q : Int) < (n5 : Int) := by omega
                    have hqj : ¬ (n5 : Int) ≤ (q : Int) := by omega
                    have hqk : (i : Int) < (n1 : Int) := by omega
                    have hql : ¬ (n1 : Int) ≤ (i : Int) := by omega
                    clear hgd hless hq1 hq2 hpy hz5
                    go_wp2
                    go_quiet (fail)
                    go_wp2
                    go_quiet (fail)
                    go_wp2
                    exact ⟨⟨i + 1, q, by omega, by omega, rfl, by go_num, HPN, Lib.hid (Nm.drewB HW.out _)⟩, by simp [intOf]; omega⟩
                · exfalso
                  obtain rfl : q = n5 := by omega
                  have h1 := HPR.out r hrn (by rw [HLS.out.2.2.1]; exact hrn) i (by rw [HLS.out.1]; exact hlt) (Nat.le_refl _)
                  rw [HRE.out.1, HY.out] at h1
                  exact Rw.lt_irrefl _ h1
            · obtain rfl : i = n1 := by omega
              go_wp2
              go_ret
              exact ⟨rfl, Nm.Nb HB.out HW.out⟩
        · go_wp2
          go_ret
          exact ⟨rfl, HB.out⟩
        · have hcb : (c3 == 0) = false := by simp [hc]
          have hcn : (c3 != 0) = true := by simp [hc]
          go_wp2
          go_ret
          exact ⟨rfl, HB.out⟩
      · have hkb : (u.k == k) = false := by simp [hk]
        have hkn : (u.k != k) = true := by simp [hk]
        obtain ⟨rfl, rfl, rfl⟩ := G1.out.1.one (hg3.turn HL2.out (fun r => by rw [← HTE.out]; show r ∈ Rw.rus k LL ↔ _; rw [← HLL.out, ← HRR.out.1]; exact Rw.rus_other hk r))
        have SF := Rw.sameForms_any A1 ca1 ss M1 cm1 ms A5 ca5 ss M5 cm5 ms n1 n1 n5 n5 G1.out.2.1 G1.out.2.2.1 p1 p2 wb S1.out Z1.out S5.out Z5.out (by have := G1.out.2.2.2; omega)
        rw [Rw.sameF_self ss ms (by rw [G1.out.2.1]; exact G1.out.2.2.1)] at SF
        have SF := Lib.hid SF
        go_wp2_with fail
        refine SF.out.mono ?_
        rintro e wc ⟨rfl, g⟩
        have HB' := Lib.hid (Nm.Nb HB.out g)
        have S5' := Lib.hid (Nm.sbt S5.out g)
        have Z5' := Lib.hid (Rw.Zs.bt Z5.out g)
        have S1' := Lib.hid (Nm.sbt S1.out g)
        have Z1' := Lib.hid (Rw.Zs.bt Z1.out g)
        clear S5 Z5 S1 Z1 HB g u0
        have S5 := S5'
        have Z5 := Z5'
        have S1 := S1'
        have Z1 := Z1'
        have HB := HB'
        clear S5' Z5' S1' Z1' HB'
        rcases G1.out.1.errs hg3 HL2.out HSUB.out with ⟨rfl, _⟩ | ⟨hc, _⟩
        · obtain ⟨ho1, ho2, hk⟩ := G1.out.1.kept hg3 HSUB.out
          have HOO := Lib.hid (And.intro ho1 (And.intro ho2 hk))
          have HLS := Lib.hid (And.intro G1.out.2.1 (And.intro G1.out.2.2.1 (And.intro p1 p2)))
          have hn1 : n1 ≤ 1000 := G1.out.2.2.2
          have hn5 : n5 ≤ 1000 := p3
          clear ho1 ho2 hk hg3 p1 p2 p3
          go_wp2
          generalize hWR : wc = V2 at *
          clear hWR
          go_loopw [23, 24] (fun s23 s24 wr => ∃ (i q : Nat), i ≤ n1 ∧ q ≤ n5 ∧ s23 = .int .i64 (q : Int) ∧ s24 = .int .i64 (i : Int) ∧ Hid (Rw.Pre ss ss i q) ∧ Hid (Below V2.heap.size V2 wr)) (fun _ s24 _ => n1 - (intOf s24).toNat)
          case atStart => exact ⟨0, 0, by omega, by omega, rfl, rfl, Lib.hid (fun j h => absurd h (by omega)), Lib.hid (Below.refl _ _)⟩
          case round =>
            obtain ⟨i, q, hi, hq, rfl, rfl, HPR, HW⟩ := hrel
            by_cases hlt : i < n1
            · have hi1 : i < ss.length := by rw [HLS.out.1]; exact hlt
              have hi2 : i < ms.length := by rw [HLS.out.2.1]; exact hlt
              obtain ⟨sd, rfl, hsd, y0⟩ := S1.out i hi1
              obtain ⟨md, rfl, hmd, z0⟩ := Z1.out i hi2
              have hgd : ss.getD i ByteArray.empty = ss[i] := by rw [List.getD_eq_getElem?_getD, List.getElem?_eq_getElem hi1]; rfl
              rw [hgd] at y0
              obtain ⟨r, hr, hr2, hre, hrc⟩ := HOO.out.2.2 i hi1 hi2
              have HR := Lib.hid (And.intro (show ∃ h : r < ss.length, ss[r] = ss[i] from ⟨hr, hre⟩) hrc)
              obtain ⟨y, hy⟩ : ∃ y, ss[i] = y := ⟨_, rfl⟩
              obtain ⟨z, hz⟩ : ∃ z, ms[i] = z := ⟨_, rfl⟩
              have HY := Lib.hid (show ∀ h : i < ss.length, ss[i] = y from fun _ => hy)
              rw [hy] at y0 hre
              rw [hz] at z0 hrc
              have y0 := Nm.cell_bt y0 HW.out
              have z0 := Nm.cell_bt z0 HW.out
              have hrn : r < n5 := by rw [← HLS.out.2.2.1]; exact hr
              have HRE := Lib.hid (And.intro (show ∀ h : r < ss.length, ss[r] = y from fun _ => hre) (show ∀ h : r < ms.length, ms[r] ≤ z from fun _ => hrc))
              clear hgd hre hrc hy hz hi1 hi2 hr hr2 HR
              go_wp2
              go_loopw [23] (fun s23 wq => ∃ q : Nat, q ≤ n5 ∧ s23 = .int .i64 (q : Int) ∧ Hid (Rw.Pre ss ss i q) ∧ Hid (Below V2.heap.size V2 wq) ∧ wq.cell? (sd.add i) = some (.string y) ∧ wq.cell? (md.add i) = some (.int .i64 z)) (fun s23 _ => n5 - (intOf s23).toNat)
              case atStart => exact ⟨q, hq, rfl, HPR, HW, y0, z0⟩
              case round =>
                clear HPR HW y0 z0 hq
                obtain ⟨q, hq, rfl, HPR, HW, y0, z0⟩ := hrel
                by_cases hqn : q < n5
                · have hq1 : q < ss.length := by rw [HLS.out.2.2.1]; exact hqn
                  have hq2 : q < ms.length := by rw [HLS.out.2.2.2]; exact hqn
                  obtain ⟨pd, rfl, hpd, v2⟩ := S5.out q hq1
                  obtain ⟨qd, rfl, hqd, v3⟩ := Z5.out q hq2
                  have hgd : ss.getD q ByteArray.empty = ss[q] := by rw [List.getD_eq_getElem?_getD, List.getElem?_eq_getElem hq1]; rfl
                  rw [hgd] at v2
                  have v0 := Nm.cell_bt v2 HW.out
                  have v1 := Nm.cell_bt v3 HW.out
                  clear v2 v3
                  by_cases hless : ss[q].data.toList < (ss[i]'(by rw [HLS.out.1]; exact hlt)).data.toList
                  · have HPN : Hid (Rw.Pre ss ss i (q + 1)) := Lib.hid (HPR.out.step HOO.out.1 (by rw [HLS.out.1]; exact hlt) hq1 hless)
                    rw [HY.out] at hless
                    obtain ⟨p, hp⟩ : ∃ p, ss[q] = p := ⟨_, rfl⟩
                    rw [hp] at v0 hless
                    have hbl : Op.bytesLess p.toList y.toList = true := by rw [Rw.less_eq]; exact decide_eq_true hless
                    have y0' : (wr.drewN 0).cell? (sd.add i) = some (.string y) := y0
                    clear hp hgd hless v1 hq1 hq2 HPR
                    go_wp2
                    go_quiet (fail)
                    go_wp2
                    exact ⟨⟨q + 1, by omega, by go_num, HPN, Lib.hid (Nm.drewB HW.out _), y0, z0⟩, by simp [intOf]; omega⟩
                  · have hqr : q = r := HPR.out.meet HOO.out.2.1 (by rw [HLS.out.1]; exact hlt) hq1 (by rw [HLS.out.2.2.1]; exact hrn) (by rw [HRE.out.1, HY.out]) hless
                    subst hqr
                    have hpy : ss[q] = y := HRE.out.1 hq1
                    have hqz : ms[q] ≤ z := HRE.out.2 hq2
                    rw [HY.out, hpy] at hless
                    rw [hpy] at v0
                    have hbl : Op.bytesLess y.toList y.toList = false := by rw [Rw.less_eq]; exact decide_eq_false hless
                    obtain ⟨z5, hz5⟩ : ∃ z5, ms[q] = z5 := ⟨_, rfl⟩
                    rw [hz5] at v1 hqz
                    have hzz : ¬ z < z5 := by omega
                    have HPN : Hid (Rw.Pre ss ss (i + 1) q) := Lib.hid (HPR.out.later)
                    have hqi : (q : Int) < (n5 : Int) := by omega
                    have hqj : ¬ (n5 : Int) ≤ (q : Int) := by omega
                    have hqk : (i : Int) < (n1 : Int) := by omega
                    have hql : ¬ (n1 : Int) ≤ (i : Int) := by omega
                    clear hgd hless hq1 hq2 hpy hz5
                    go_wp2
                    go_quiet (fail)
                    go_wp2
                    go_quiet (fail)
                    go_wp2
                    exact ⟨⟨i + 1, q, by omega, by omega, rfl, by go_num, HPN, Lib.hid (Nm.drewB HW.out _)⟩, by simp [intOf]; omega⟩
                · exfalso
                  obtain rfl : q = n5 := by omega
                  have h1 := HPR.out r hrn (by rw [HLS.out.2.2.1]; exact hrn) i (by rw [HLS.out.1]; exact hlt) (Nat.le_refl _)
                  rw [HRE.out.1, HY.out] at h1
                  exact Rw.lt_irrefl _ h1
            · obtain rfl : i = n1 := by omega
              go_wp2
              go_ret
              exact ⟨rfl, Nm.Nb HB.out HW.out⟩
        · have hcb : (c1 == 0) = false := by simp [hc]
          have hcn : (c1 != 0) = true := by simp [hc]
          go_wp2
          go_ret
          exact ⟨rfl, HB.out⟩
end Go.Proofs.YtkddpealobeleaaGreatDoor
