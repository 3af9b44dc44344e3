/- The library's stable sort at slices of int: at most 39 elements. -/
import Derived.Test.YtkbncdcphohmiaaGreatDoorMoI
set_option linter.unusedSimpArgs false
set_option linter.unusedVariables false
namespace Go.Proofs.YtkbncdcphohmiaaGreatDoor
open Go.Shelf Go.RowKit Go.Lib Go.Sort
set_option maxRecDepth 100000
variable {α : Type} [Inhabited α]

theorem Sb.merge_any (enc : α → Value) (cf : α → α → Int) (ix : α → Nat) (hO : SWO (ltOf cf)) (g : Nat) (cb : Array Value) (blk off cap : Nat) (d0 : Array α) (w0 : World)
    (eg : ∀ args w, (callFunc g args).run Tryz.prog w = .ok (.enter g args) w) (hcmp : CmpLays1 Tryz.prog g cb enc cf blk off d0.size w0) (R : Row1 enc w0 blk off d0) (hsz : d0.size < 4611686018427387904) :
    ∀ (N a m b : Nat) (d : Array α) (w : World), b - a ≤ N → d.size = d0.size → SW enc w0 blk off d w → Sb.Two (ltOf cf) ix d a m b →
    Calls Tryz.prog 127 #[.slice (some ⟨blk, off, none⟩) d0.size cap, .int .i64 a, .int .i64 m, .int .i64 b, .func (.func g) #[] cb] w (Sb.MerP enc (ltOf cf) ix w0 blk off d a b)
  | 0, a, m, b, d, w, hN, hs, S, H => by
    have := H.am
    have := H.mb
    omega
  | N + 1, a, m, b, d, w, hN, hs, S, H => by
    by_cases h1 : m = a + 1
    · subst h1
      rw [← hs]
      exact Sb.merge_left enc cf ix hO g cb blk off cap a b d0 d w0 w eg hcmp R hs.symm S H (by rw [hs]; exact hsz)
    · by_cases h2 : b = m + 1
      · subst h2
        rw [← hs]
        exact Sb.merge_right enc cf ix hO g cb blk off cap a m d0 d w0 w eg hcmp R hs.symm S H h1 (by rw [hs]; exact hsz)
      · rw [← hs]
        refine Sb.merge_gen enc cf ix hO g cb blk off cap a m b d0 d w0 w eg hcmp R hs.symm S H (by rw [hs]; exact hsz) h1 h2 fun a' m' b' d' v hlt hd' hv H' => ?_
        rw [hs]
        exact Sb.merge_any enc cf ix hO g cb blk off cap d0 w0 eg hcmp R hsz N a' m' b' d' v (by omega) (hd'.trans hs) hv H'

theorem Sb.sub_lr {ix : α → Nat} {d : Array α} {n : Nat} (h0 : ∀ i j, i < j → j < n → ix d[i]! < ix d[j]!) {d' : Array α} {k : Nat} (hk : k ≤ n) (hn : n ≤ d.size) (hp : PermIn 0 k d d') : Sb.LR ix 0 k n d' :=
  Sb.LR.perm (fun i j _ h1 h2 h3 => h0 i j (by omega) h3) hn hk hp

set_option maxHeartbeats 4000000 in
theorem Sb.stable_small (enc : α → Value) (cf : α → α → Int) (ix : α → Nat) (hO : SWO (ltOf cf)) (g : Nat) (cb : Array Value) (blk off cap : Nat) (d : Array α) (w : World)
    (eg : ∀ args w, (callFunc g args).run Tryz.prog w = .ok (.enter g args) w) (hcmp : CmpLays1 Tryz.prog g cb enc cf blk off d.size w) (R : Row1 enc w blk off d) (h39 : d.size < 40) (h0 : ∀ i j, i < j → j < d.size → ix d[i]! < ix d[j]!) :
    Calls Tryz.prog 91 #[.slice (some ⟨blk, off, none⟩) d.size cap, .int .i64 d.size, .func (.func g) #[] cb] w (Sb.MerP enc (ltOf cf) ix w blk off d 0 d.size) := by
  have mixed := Sb.laysIns.mixed
  have S0 : SW enc w blk off d w := SW.start R.hH
  have CI : Hid (∀ (a b : Nat) (dk : Array α) (v : World), dk.size = d.size → SW enc w blk off dk v → a ≤ b → b ≤ d.size → Calls Tryz.prog 126 #[.slice (some ⟨blk, off, none⟩) d.size cap, .int .i64 a, .int .i64 b, .func (.func g) #[] cb] v fun e w' => e = .returned (.tuple #[]) ∧ SW enc w blk off (Sort.insertionSort (ltOf cf) dk a b) w') :=
    Lib.hid (fun a b dk v hd hv h1 h2 => by
      rw [← hd]
      exact Any.insertionSortCmpFunc_s Sb.laysIns enc cf g cb blk off cap a b d dk w v eg hcmp R hd.symm hv h1 (by rw [hd]; exact h2) (by omega))
  have CM := Lib.hid (fun a m b dk v (hd : dk.size = d.size) hv H => Sb.merge_any enc cf ix hO g cb blk off cap d w eg hcmp R (by omega) (b - a) a m b dk v (Nat.le_refl _) hd hv H)
  have HO : Hid (SWO (ltOf cf)) := Lib.hid hO
  have H0 : Hid (∀ i j, i < j → j < d.size → ix d[i]! < ix d[j]!) := Lib.hid h0
  clear hcmp R hO h0
  by_cases h20 : d.size < 20
  · have C1 := Lib.hid (CI.out 0 d.size d w rfl S0 (Nat.zero_le _) (Nat.le_refl _))
    have HF := Lib.hid (Sb.insertion (ix := ix) HO.out 0 d.size d (Nat.zero_le _) (Nat.le_refl _) (fun i j _ h1 h2 => H0.out i j h1 h2))
    clear S0 CM CI
    obtain ⟨n, hn⟩ : ∃ n, n = d.size := ⟨_, rfl⟩
    rw [← hn] at h20 C1 ⊢
    have HN := Lib.hid hn
    rw [← hn] at HF
    clear hn h39
    go_enter Tryz.func91, Tryz.ntmps91
    go_wp2
    refine wp_loop_rounds 1 ?_
    rw [rounds_succ]
    go_wp2_with fail
    refine C1.out.mono ?_
    rintro e w1 ⟨rfl, h1⟩
    have S1 := Lib.hid h1
    clear h1
    go_wp2_with fail
    refine wp_loop_rounds 1 ?_
    rw [rounds_succ]
    go_wp2
    all_goals first | (exfalso; omega) | (go_end0; exact ⟨rfl, _, HF.out.1, HF.out.2, S1.out⟩)
  · obtain ⟨n, hn⟩ : ∃ n, n = d.size := ⟨_, rfl⟩
    have HN := Lib.hid hn
    obtain ⟨d1, hd1⟩ : ∃ d1, d1 = Sort.insertionSort (ltOf cf) d 0 20 := ⟨_, rfl⟩
    have C1 := Lib.hid (CI.out 0 20 d w rfl S0 (Nat.zero_le _) (by omega))
    have F1 := Lib.hid (Sb.insertion (ix := ix) HO.out 0 20 d (Nat.zero_le _) (by omega) (fun i j _ h1 h2 => H0.out i j h1 (by omega)))
    rw [← hd1] at C1 F1
    have Z1 : Hid (d1.size = d.size) := Lib.hid F1.out.1.1
    obtain ⟨d2, hd2⟩ : ∃ d2, d2 = Sort.insertionSort (ltOf cf) d1 20 n := ⟨_, rfl⟩
    have C2 := Lib.hid (fun v hv => CI.out 20 n d1 v Z1.out hv (by omega) (by omega))
    have F2 := Lib.hid (Sb.insertion (ix := ix) HO.out 20 n d1 (by omega) (by rw [Z1.out]; omega) (fun i j h1 h2 h3 => by
      rw [F1.out.1.2.1 i (.inr h1), F1.out.1.2.1 j (.inr (by omega))]
      exact H0.out i j h2 (by omega)))
    rw [← hd2] at C2 F2
    have Z2 : Hid (d2.size = d.size) := Lib.hid (F2.out.1.1.trans Z1.out)
    have P2 : Hid (PermIn 0 n d d2) := Lib.hid (permIn_trans _ _ _ _ _ (permIn_mono _ _ _ _ _ _ (Nat.le_refl _) (by omega) (by omega) F1.out.1) (permIn_mono _ _ _ _ _ _ (by omega) (Nat.le_refl _) (by rw [Z1.out]; omega) F2.out.1))
    have L2 : Hid (SortedIn (Sb.prB (ltOf cf) ix) 0 20 d2) := Lib.hid (Sb.sorted_out F1.out.2 F2.out.1 (.inl (Nat.le_refl _)))
    have LR2 : Hid (Sb.LR ix 0 20 n d2) := Lib.hid (Sb.LR.perm' (Sb.sub_lr (n := n) (fun i j h1 h2 => H0.out i j h1 (by omega)) (by omega) (by omega) F1.out.1) (by rw [Z1.out]; omega) F2.out.1)
    rw [← hn] at h20 h39 C1 C2 CM ⊢
    clear hn hd1 hd2 CI S0
    by_cases hn20 : n = 20
    · have HE : Hid (SortedIn (Sb.prB (ltOf cf) ix) 0 n d2) := Lib.hid (by rw [hn20]; exact L2.out)
      have HN20 := Lib.hid hn20
      have h20' : n < 21 := by omega
      have h20'' : 20 ≤ n := by omega
      clear hn20 h20
      go_enter Tryz.func91, Tryz.ntmps91
      go_wp2
      refine wp_loop_rounds 2 ?_
      rw [rounds_succ]
      go_wp2_with fail
      refine C1.out.mono ?_
      rintro e w1 ⟨rfl, h1⟩
      have S1 := Lib.hid h1
      clear h1
      go_wp2_with fail
      rw [rounds_succ]
      go_wp2_with fail
      refine (C2.out _ S1.out).mono ?_
      rintro e w2 ⟨rfl, h2⟩
      have S2 := Lib.hid h2
      clear h2
      go_wp2_with fail
      refine wp_loop_rounds 1 ?_
      rw [rounds_succ]
      go_wp2
      all_goals first | (exfalso; omega) | (go_end0; exact ⟨rfl, _, P2.out, HE.out, S2.out⟩)
    · have T3 : Hid (Sb.Two (ltOf cf) ix d2 0 20 n) := Lib.hid ⟨L2.out, F2.out.2, LR2.out, by omega, by omega, by rw [Z2.out, ← HN.out]; exact Nat.le_refl _⟩
      have C3 := Lib.hid (fun v hv => CM.out 0 20 n d2 v (Z2.out.trans HN.out.symm) hv T3.out)
      have h20' : 20 < n := by omega
      clear hn20 h20 CM
      go_enter Tryz.func91, Tryz.ntmps91
      go_wp2
      refine wp_loop_rounds 2 ?_
      rw [rounds_succ]
      go_wp2_with fail
      refine C1.out.mono ?_
      rintro e w1 ⟨rfl, h1⟩
      have S1 := Lib.hid h1
      clear h1
      go_wp2_with fail
      rw [rounds_succ]
      go_wp2_with fail
      refine (C2.out _ S1.out).mono ?_
      rintro e w2 ⟨rfl, h2⟩
      have S2 := Lib.hid h2
      clear h2
      go_wp2_with fail
      refine wp_loop_rounds 2 ?_
      rw [rounds_succ]
      go_wp2_with fail
      refine wp_loop_rounds 1 ?_
      rw [rounds_succ]
      go_wp2_with fail
      refine (C3.out _ S2.out).mono ?_
      rintro e w3 ⟨rfl, d3, q1, q2, q3⟩
      have HE := Lib.hid (And.intro (permIn_trans _ _ _ _ _ P2.out q1) (And.intro q2 q3))
      clear q1 q2 q3
      go_wp2_with fail
      rw [rounds_succ]
      go_wp2
      all_goals first | (exfalso; omega) | (go_end0; exact ⟨rfl, d3, HE.out.1, HE.out.2.1, HE.out.2.2⟩)

theorem Sb.sort_small (enc : α → Value) (cf : α → α → Int) (ix : α → Nat) (hO : SWO (ltOf cf)) (g : Nat) (cb : Array Value) (blk off cap : Nat) (d : Array α) (w : World)
    (eg : ∀ args w, (callFunc g args).run Tryz.prog w = .ok (.enter g args) w) (hcmp : CmpLays1 Tryz.prog g cb enc cf blk off d.size w) (R : Row1 enc w blk off d) (h39 : d.size < 40) (h0 : ∀ i j, i < j → j < d.size → ix d[i]! < ix d[j]!) :
    Calls Tryz.prog 55 #[.slice (some ⟨blk, off, none⟩) d.size cap, .func (.func g) #[] cb] w (Sb.MerP enc (ltOf cf) ix w blk off d 0 d.size) := by
  have C := Lib.hid (Sb.stable_small enc cf ix hO g cb blk off cap d w eg hcmp R h39 h0)
  clear hcmp R hO h0
  go_enter Tryz.func55, Tryz.ntmps55
  go_wp2_with fail
  refine C.out.mono ?_
  rintro e w1 ⟨rfl, h⟩
  have H := Lib.hid h
  clear h
  go_wp2
  go_end0
  exact ⟨rfl, H.out⟩
end Go.Proofs.YtkbncdcphohmiaaGreatDoor
