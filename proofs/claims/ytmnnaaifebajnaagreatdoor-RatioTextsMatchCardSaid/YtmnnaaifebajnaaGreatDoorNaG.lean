/- One limb of a quotient: sort.Search, its test, quotientLimb. -/
import Derived.Test.YtmnnaaifebajnaaGreatDoorNaF
import Derived.Deep.RegionHeld3
import Derived.Deep.DrawnRows
import Derived.Laws.EntriesVeiled
set_option linter.unusedSimpArgs false
set_option linter.unusedVariables false
namespace Go.Proofs.YtmnnaaifebajnaaGreatDoor
open Go.RowKit
set_option maxRecDepth 100000

/-- The library's binary search, at a function that answers by 'p'. -/
theorem search_any (n : Nat) (a1 a2 a3 : Value) (p : Nat → Bool) (w : World) (hn : n ≤ 1000000000)
    (hp : ∀ (h : Nat) (w' : World), h < n → Below w.heap.size w w' → Calls Tryz.prog 122 #[.int .i64 (h : Int), a1, a2, a3] w' fun e w'' => e = .returned (.bool (p h)) ∧ Below w'.heap.size w' w'') :
    Calls Tryz.prog 121 #[.int .i64 (n : Int), .func (.func 122) #[] #[a1, a2, a3]] w fun e w' => ∃ k : Nat, k ≤ n ∧ e = .returned (.int .i64 (k : Int)) ∧ Hid (k = 0 ∨ p (k - 1) = false) ∧ Hid (k = n ∨ p k = true) ∧ Below w.heap.size w w' := by
  have HP := Lib.hid hp
  clear hp
  go_enter Tryz.func121, Tryz.ntmps121
  go_wp2
  go_loopw [5, 6] (fun i j wr => ∃ a b : Nat, a ≤ b ∧ b ≤ n ∧ i = .int .i64 (a : Int) ∧ j = .int .i64 (b : Int) ∧ Hid (a = 0 ∨ p (a - 1) = false) ∧ Hid (b = n ∨ p b = true) ∧ Below w.heap.size w wr) (fun i j _ => (intOf j - intOf i).toNat)
  case atStart => exact ⟨0, n, by omega, Nat.le_refl _, rfl, rfl, Lib.hid (.inl rfl), Lib.hid (.inl rfl), Below.refl _ _⟩
  case round =>
    obtain ⟨a, b, hab, hbn, rfl, rfl, H1, H2, hb⟩ := hrel
    by_cases hlt : a < b
    · obtain ⟨h, hh⟩ : ∃ h : Nat, h = (a + b) / 2 := ⟨_, rfl⟩
      have hm : ((a : Int) + (b : Int)) / 2 = (h : Int) := by omega
      have h1 : a ≤ h := by omega
      have h2 : h < b := by omega
      have CP := Lib.hid (HP.out h wr (by omega) hb)
      clear hh
      have hpp : p h = true ∨ p h = false := by cases p h <;> simp
      rcases hpp with hpt | hpf
      · rw [hpt] at CP
        go_wp2_with fail
        refine CP.out.mono ?_
        rintro e w1 ⟨rfl, hb1⟩
        go_wp2
        exact ⟨⟨a, h, h1, by omega, rfl, rfl, H1, Lib.hid (.inr hpt), hb.trans (hb1.mono hb.size)⟩, by simp [intOf]; omega⟩
      · rw [hpf] at CP
        go_wp2_with fail
        refine CP.out.mono ?_
        rintro e w1 ⟨rfl, hb1⟩
        go_wp2
        exact ⟨⟨h + 1, b, by omega, hbn, by go_num, rfl, Lib.hid (.inr (by simpa using hpf)), H2, hb.trans (hb1.mono hb.size)⟩, by simp [intOf]; omega⟩
    · obtain rfl : a = b := by omega
      go_wp2
      go_ret
      exact ⟨a, hbn, rfl, H1, H2, hb⟩

theorem Nb {w v u : World} (h : Below w.heap.size w v) (g : Below v.heap.size v u) : Below w.heap.size w u := h.trans (g.mono h.size)
theorem drewN_below (w : World) (q : Nat) : Below w.heap.size w (w.drewN q) := ⟨rfl, rfl, rfl, Nat.le_refl _, fun _ _ => rfl⟩

theorem cell_lt {w : World} {a : Addr} {v : Value} (h : w.cell? a = some v) : a.block < w.heap.size := by
  refine Nat.lt_of_not_le fun hge => ?_
  simp [World.cell?, Array.getElem?_eq_none hge] at h

theorem box_ints {w : World} {g t : Nat} (h : w.heap[g]? = some (.cells #[.int .i64 (t : Int)] 3 (0, 0))) : Ints w w.heap.size (some ⟨g, 0, none⟩) [t] := by
  have := own_of_row (w := w) (B := 0) (g := g) (l := [(t : Int)]) h (Nat.zero_le _) (by simp [maxLen])
  exact this.ints rfl

def lowAt (w : World) (R Bv : Value) (low : Nat) (g1 g2 g3 : Nat) : Prop := w.cell? ⟨g1, 0, none⟩ = some R ∧ w.cell? ⟨g2, 0, none⟩ = some Bv ∧ w.cell? ⟨g3, 0, none⟩ = some (.int .i64 (low : Int))

set_option maxHeartbeats 1000000 in
theorem test_any (A A' : Option Addr) (m n c c' low k : Nat) (g1 g2 g3 : Nat) (w : World) (hs : Ints w w.heap.size A (Na.lim m)) (hs' : Ints w w.heap.size A' (Na.lim n)) (hl : (Na.lim m).length ≤ 70) (hl' : (Na.lim n).length ≤ 60)
    (hk : low + k + 1 ≤ 1000000) (k1 : w.cell? ⟨g1, 0, none⟩ = some (.slice A (Na.lim m).length c)) (k2 : w.cell? ⟨g2, 0, none⟩ = some (.slice A' (Na.lim n).length c')) (k3 : w.cell? ⟨g3, 0, none⟩ = some (.int .i64 (low : Int))) :
    Calls Tryz.prog 122 #[.int .i64 (k : Int), .pointer (some ⟨g1, 0, none⟩), .pointer (some ⟨g2, 0, none⟩), .pointer (some ⟨g3, 0, none⟩)] w fun e w' => e = .returned (.bool (decide (m < n * (low + k + 1)))) ∧ Below w.heap.size w w' := by
  have ht : ((low : Int) + (k : Int)) + 1 = ((low + k + 1 : Nat) : Int) := by omega
  have hlk : ((low : Int) + (k : Int)) = ((low + k : Nat) : Int) := by omega
  obtain ⟨t, hte⟩ : ∃ t, t = low + k + 1 := ⟨_, rfl⟩
  have hnt : n * t < 1000000 ^ ((Na.lim n).length + 1) := by
    have h1 := Na.lim_length.1 (Nat.le_refl (Na.lim n).length)
    have h2 : n * t ≤ n * 1000000 := Nat.mul_le_mul_left _ (by omega)
    rw [Nat.pow_succ]
    have h3 : n * 1000000 < 1000000 ^ (Na.lim n).length * 1000000 := Nat.mul_lt_mul_of_pos_right h1 (by omega)
    omega
  have e0 : Na.lv (Na.lim n) * Na.lv [t] = n * t := by rw [Na.lv_lim, Na.lv_cons, Na.lv_nil]; simp
  have TI : Hid (∀ W : World, Below w.heap.size w W → ∀ g : Nat, W.heap[g]? = some (.cells #[.int .i64 (t : Int)] 3 (0, 0)) → Calls Tryz.prog 93 #[.slice A' (Na.lim n).length c', .slice (some ⟨g, 0, none⟩) 1 1] W (GivesN (n * t) W)) := by
    refine Lib.hid fun W hb g hg => ?_
    have := times_any A' (some ⟨g, 0, none⟩) (Na.lim n) [t] c' 1 W (hs'.bt hb) (box_ints hg) (by omega) (by simp) (fun d hd => by have := Na.lim_lt n d hd; omega) (fun d hd => by rw [show d = t by simpa using hd]; omega) (by rw [e0]; simpa using hnt)
    rwa [e0] at this
  have hll : (Na.lim (n * t)).length ≤ (Na.lim n).length + 1 := Na.lim_length.2 hnt
  have CI := Lib.hid (fun W (hb : Below w.heap.size w W) (A2 : Option Addr) (c2 : Nat) (hi : Ints W W.heap.size A2 (Na.lim (n * t))) => compare_any A A2 m (n * t) c c2 W (hs.bt hb) hi (by omega) (by omega))
  have HR : Hid ((if decide (m < n * (low + k + 1)) = true then (-1 : Int) else cmpN m (n * t)) = cmpN m (n * t) ∧ decide (cmpN m (n * t) < 0) = decide (m < n * (low + k + 1))) := by
    refine Lib.hid ?_
    rw [← hte]
    unfold cmpN
    by_cases h : m < n * t
    · simp [h]
    · simp [h]
      split <;> simp
  rw [← hte] at ht
  obtain ⟨u, hu⟩ : ∃ u, u = low + k := ⟨_, rfl⟩
  have w1 : IntKind.i64.wrap ((low : Int) + (k : Int)) = (u : Int) := by rw [IntKind.wrap_i64]; omega
  have w2 : IntKind.i64.wrap ((u : Int) + 1) = (t : Int) := by rw [IntKind.wrap_i64]; omega
  have KB := Lib.hid (fun W (hb : Below w.heap.size w W) => And.intro ((hb.cell (p := ⟨g1, 0, none⟩) (cell_lt k1)).trans k1) (And.intro ((hb.cell (p := ⟨g2, 0, none⟩) (cell_lt k2)).trans k2) ((hb.cell (p := ⟨g3, 0, none⟩) (cell_lt k3)).trans k3)))
  have hbT : Below w.heap.size w ((w.alloc (.cells #[.int .i64 (t : Int)] 3)).drew) := ((Below.refl _ _).alloc (Nat.le_refl _) _).drew
  have hgT : ((w.alloc (.cells #[.int .i64 (t : Int)] 3)).drew).heap[w.heap.size]? = some (.cells #[.int .i64 (t : Int)] 3 (0, 0)) := heap_alloc_new w _
  clear hs hs' hnt hll hte e0 ht hlk hu hk
  go_enter Tryz.func122, Tryz.ntmps122
  go_wp2_with fail
  go_region_held3 (fun w' => w'.cell? ⟨g1, 0, none⟩ = some (.slice A (Na.lim m).length c) ∧ w'.cell? ⟨g2, 0, none⟩ = some (.slice A' (Na.lim n).length c') ∧ w'.cell? ⟨g3, 0, none⟩ = some (.int .i64 (low : Int))) (first | exact ⟨k1, k2, k3⟩ | exact ⟨n1, n2, n3⟩ | exact ⟨o1, o2, o3⟩ | go_keep)
    (first
      | (go_at_call 93
         (with_reducible refine (TI.out _ hbT w.heap.size hgT).mono ?_)
         rintro e w3 ⟨A2, c2, rfl, hi, _, _, hb3⟩
         have hb3' := Nb hbT hb3
         have HI := Lib.hid hi
         clear hi
         obtain ⟨n1, n2, n3⟩ := KB.out _ hb3')
      | (go_at_call 94
         (with_reducible refine (CI.out _ hb3' A2 c2 HI.out).mono ?_)
         rintro e w4 ⟨rfl, q4, rfl⟩
         have hb4' := Nb hb3' (drewN_below w3 q4)
         obtain ⟨o1, o2, o3⟩ := KB.out _ hb4')
      | fail)
  go_wp2
  go_ret
  exact ⟨by rw [← HR.out.2]; rfl, hb4'⟩

theorem div_wrap (m n : Nat) (hm : m < 1000000000000000000) : wrap64 ((m : Int) / (n : Int)) = ((m / n : Nat) : Int) := by
  have h1 : ((m : Int) / (n : Int)) = ((m / n : Nat) : Int) := by simp
  have h2 := Nat.div_le_self m n
  rw [h1]
  generalize m / n = q at *
  unfold wrap64
  omega

set_option maxHeartbeats 1000000 in
theorem quotient_any (A A' : Option Addr) (m n c c' : Nat) (w : World) (hs : Ints w w.heap.size A (Na.lim m)) (hs' : Ints w w.heap.size A' (Na.lim n)) (hl' : (Na.lim n).length ≤ 60) (hn : 0 < n) (hmn : m < 1000000 * n) :
    Calls Tryz.prog 104 #[.slice A (Na.lim m).length c, .slice A' (Na.lim n).length c'] w fun e w' => e = .returned (.int .i64 ((m / n : Nat) : Int)) ∧ Below w.heap.size w w' := by
  have hll : (Na.lim m).length ≤ (Na.lim n).length + 1 := by
    refine Na.lim_length.2 ?_
    rw [Nat.pow_succ]
    have := Na.lim_length.1 (Nat.le_refl (Na.lim n).length)
    have : n * 1000000 < 1000000 ^ (Na.lim n).length * 1000000 := Nat.mul_lt_mul_of_pos_right this (by omega)
    omega
  have hpos : 0 < (Na.lim n).length := by
    rcases Nat.eq_zero_or_pos (Na.lim n).length with h | h
    · have := Na.lim_nil.1 (List.eq_nil_of_length_eq_zero h); omega
    · exact h
  obtain ⟨W1, hW1⟩ : ∃ W1, W1 = (w.alloc (.cells #[.slice A (Na.lim m).length c] 72)) := ⟨_, rfl⟩
  obtain ⟨W2, hW2⟩ : ∃ W2, W2 = (W1.alloc (.cells #[.slice A' (Na.lim n).length c'] 72)) := ⟨_, rfl⟩
  have hz1 : W1.heap.size = w.heap.size + 1 := by rw [hW1]; exact Array.size_push ..
  have hbW : Below w.heap.size w W2 := by
    rw [hW2, hW1]
    exact ((Below.refl _ w).alloc (Nat.le_refl _) _).alloc ((Below.refl _ w).alloc (Nat.le_refl _) _).size _
  have hc1 : W2.cell? ⟨w.heap.size, 0, none⟩ = some (.slice A (Na.lim m).length c) := by
    refine cell_of_one (t := 72) ?_
    rw [hW2]
    refine (((Below.refl _ W1).alloc (Nat.le_refl _) _).block _ (by omega)).trans ?_
    rw [hW1]
    exact heap_alloc_new w _
  have hc2 : W2.cell? ⟨w.heap.size + 1, 0, none⟩ = some (.slice A' (Na.lim n).length c') := by
    refine cell_of_one (t := 72) ?_
    rw [hW2, ← hz1]
    exact heap_alloc_new W1 _
  have hWz : W2.heap.size = w.heap.size + 2 := by rw [hW2]; exact (Array.size_push ..).trans (by rw [hz1])
  have HW2 := Lib.hid hW2
  have HW1 := Lib.hid hW1
  have S1 := hs.bt hbW
  have S2 := hs'.bt hbW
  have hdm := Lib.hid (Na.lim_lt m)
  have hdn := Lib.hid (Na.lim_lt n)
  have hvm := Lib.hid (Na.lv_lim m)
  have hvn := Lib.hid (Na.lv_lim n)
  have hPm := Lib.hid (Na.lim_length.1 (Nat.le_refl (Na.lim m).length))
  have hPn := Lib.hid (Na.lim_length.1 (Nat.le_refl (Na.lim n).length))
  clear hW1 hW2
  by_cases hsm : (Na.lim n).length ≤ 2
  · have hm18 : m < 1000000000000000000 := by
      have h1 : m < 1000000 ^ (Na.lim m).length := hPm.out
      have h2 : 1000000 ^ (Na.lim m).length ≤ 1000000 ^ 3 := Nat.pow_le_pow_right (by omega) (by omega)
      omega
    have hn18 : n < 1000000000000000000 := by
      have h1 : n < 1000000 ^ (Na.lim n).length := hPn.out
      have h2 : 1000000 ^ (Na.lim n).length ≤ 1000000 ^ 2 := Nat.pow_le_pow_right (by omega) (by omega)
      omega
    have AB1 : Hid (∀ q, Calls Tryz.prog 120 #[.slice A (Na.lim m).length c, .int .i64 0] (W2.drewN q) fun e w' => e = .returned (.int .i64 (m : Int)) ∧ (W2.drewN q) = w') := by
      refine Lib.hid fun q => ?_
      have := above_any A (Na.lim m) c 0 (W2.drewN q) S1 (by omega) (by omega) hdm.out (by rw [List.drop_zero, hvm.out]; exact hm18)
      rw [List.drop_zero, hvm.out] at this
      exact this
    have AB2 : Hid (∀ q, Calls Tryz.prog 120 #[.slice A' (Na.lim n).length c', .int .i64 0] (W2.drewN q) fun e w' => e = .returned (.int .i64 (n : Int)) ∧ (W2.drewN q) = w') := by
      refine Lib.hid fun q => ?_
      have := above_any A' (Na.lim n) c' 0 (W2.drewN q) S2 (by omega) (by omega) hdn.out (by rw [List.drop_zero, hvn.out]; exact hn18)
      rw [List.drop_zero, hvn.out] at this
      exact this
    have h2 : ((Na.lim n).length : Int) ≤ 2 := by omega
    have hni : ¬ ((n : Int) = 0) := by omega
    have hq : (m : Int) / (n : Int) = ((m / n : Nat) : Int) := by simp
    have HQ := Lib.hid hq
    clear hs hs' S1 S2 hq
    go_enter Tryz.func104, Tryz.ntmps104
    go_wp2_with fail
    rw [← HW1.out, ← HW2.out]
    go_quiet (first
      | (go_at_call 120; with_reducible exact (AB1.out _).mono fun _ _ h => ⟨h.1, _, h.2.symm⟩)
      | (go_at_call 120; with_reducible exact (AB2.out _).mono fun _ _ h => ⟨h.1, _, h.2.symm⟩))
    have HWr := Lib.hid (div_wrap m n hm18)
    go_wp2_with fail
    rw [HWr.out]
    go_ret
    exact ⟨rfl, Nb hbW (drewN_below W2 nq)⟩
  · obtain ⟨K, hK⟩ : ∃ K, (Na.lim n).length = K + 2 := ⟨(Na.lim n).length - 2, by omega⟩
    have hK1 : 1 ≤ K := by omega
    have hK58 : K ≤ 58 := by omega
    have hKi : (0 : Int) < (K : Int) := by omega
    have hD18 : m / 1000000 ^ K < 1000000000000000000 := by
      rw [Nat.div_lt_iff_lt_mul (Nat.pos_of_ne_zero (by simp))]
      have h1 : m < 1000000 ^ (Na.lim m).length := hPm.out
      have h2 : 1000000 ^ (Na.lim m).length ≤ 1000000 ^ (K + 3) := Nat.pow_le_pow_right (by omega) (by omega)
      rw [Nat.pow_add] at h2
      omega
    have hE12 : n / 1000000 ^ K < 1000000000000 := by
      rw [Nat.div_lt_iff_lt_mul (Nat.pos_of_ne_zero (by simp))]
      have h1 : n < 1000000 ^ (Na.lim n).length := hPn.out
      rw [hK, Nat.pow_add] at h1
      omega
    have hge := Na.lim_ge (n := n) (k := K + 1) (by omega)
    have hE0 : 0 < n / 1000000 ^ K := by
      have h1 : 1000000 ^ K ≤ n := Nat.le_trans (Nat.pow_le_pow_right (by omega) (by omega)) hge
      exact Nat.div_pos h1 (Nat.pos_of_ne_zero (by simp))
    have HH := Na.high_le m n K hmn hge
    have HQB := Na.quot_between m n (1000000 ^ K) _ _ (Nat.pos_of_ne_zero (by simp)) rfl rfl hE0
    have AB1 : Hid (∀ q, Calls Tryz.prog 120 #[.slice A (Na.lim m).length c, .int .i64 (K : Int)] (W2.drewN q) fun e w' => e = .returned (.int .i64 ((m / 1000000 ^ K : Nat) : Int)) ∧ (W2.drewN q) = w') := by
      refine Lib.hid fun q => ?_
      have := above_all A (Na.lim m) c K (W2.drewN q) S1 (by omega) hdm.out (by rw [Na.lv_drop_all]; exact hD18)
      rwa [Na.lv_drop_all] at this
    have AB2 : Hid (∀ q, Calls Tryz.prog 120 #[.slice A' (K + 2) c', .int .i64 (K : Int)] (W2.drewN q) fun e w' => e = .returned (.int .i64 ((n / 1000000 ^ K : Nat) : Int)) ∧ (W2.drewN q) = w') := by
      refine Lib.hid fun q => ?_
      have := above_all A' (Na.lim n) c' K (W2.drewN q) S2 (by omega) hdn.out (by rw [Na.lv_drop_all]; omega)
      rwa [Na.lv_drop_all, hK] at this
    have FD := Lib.hid (fun k hk h3 h4 => Na.found m n ((m / 1000000 ^ K) / (n / 1000000 ^ K + 1)) ((m / 1000000 ^ K) / (n / 1000000 ^ K)) k (m / n) hn rfl HQB.1 HQB.2 hk h3 h4)
    have TA := Lib.hid (fun (low k g3 : Nat) (W : World) (hb : Below W2.heap.size W2 W) (hk : low + k + 1 ≤ 1000000) (k3 : W.cell? ⟨g3, 0, none⟩ = some (.int .i64 (low : Int))) =>
      test_any A A' m n c c' low k w.heap.size (w.heap.size + 1) g3 W (S1.bt hb) (S2.bt hb) (by omega) hl' hk ((hb.cell (p := ⟨w.heap.size, 0, none⟩) (cell_lt hc1)).trans hc1) ((hb.cell (p := ⟨w.heap.size + 1, 0, none⟩) (cell_lt hc2)).trans hc2) k3)
    have hlh : (m / 1000000 ^ K) / (n / 1000000 ^ K + 1) ≤ (m / 1000000 ^ K) / (n / 1000000 ^ K) := Nat.le_trans HQB.1 HQB.2
    rw [hK] at hc2 HW2 ⊢
    have HW1r := Lib.hid (div_wrap (m / 1000000 ^ K) (n / 1000000 ^ K) hD18)
    have HW2r : Hid (wrap64 (((m / 1000000 ^ K : Nat) : Int) / (((n / 1000000 ^ K : Nat) : Int) + 1)) = (((m / 1000000 ^ K) / (n / 1000000 ^ K + 1) : Nat) : Int)) := Lib.hid (by have := div_wrap (m / 1000000 ^ K) (n / 1000000 ^ K + 1) hD18; rwa [Int.natCast_add] at this)
    clear hs hs' S1 S2 HQB hge hD18 hmn hll hpos hl' hsm
    generalize m / 1000000 ^ K = D at *
    generalize n / 1000000 ^ K = E at *
    generalize hhi : D / E = hi at *
    generalize hlo : D / (E + 1) = lo at *
    have hE1 : ((E : Int) + 1) = ((E + 1 : Nat) : Int) := by omega
    have hni : ¬ ((E : Int) = 0) := by omega
    have hni2 : ¬ ((E : Int) + 1 = 0) := by omega
    clear hhi hlo hE1
    go_enter Tryz.func104, Tryz.ntmps104
    go_wp2_with fail
    rw [← HW1.out, ← HW2.out]
    go_quiet (first
      | (go_at_call 120; with_reducible exact (AB1.out _).mono fun _ _ h => ⟨h.1, _, h.2.symm⟩)
      | (go_at_call 120; with_reducible exact (AB2.out _).mono fun _ _ h => ⟨h.1, _, h.2.symm⟩))
    go_wp2_with fail
    rw [HW1r.out, HW2r.out]
    obtain ⟨W3, hW3⟩ : ∃ W3, W3 = (W2.drewN nq).alloc (.cells #[.int .i64 (lo : Int)] 3) := ⟨_, rfl⟩
    rw [← hW3]
    have hz2 : (W2.drewN nq).heap.size = w.heap.size + 2 := hWz
    have hb3 : Below W2.heap.size W2 W3 := by
      rw [hW3]
      exact (drewN_below W2 nq).alloc (Nat.le_refl _) _
    have hk3 : W3.cell? ⟨w.heap.size + 2, 0, none⟩ = some (.int .i64 (lo : Int)) := by
      refine cell_of_one (t := 3) ?_
      rw [hW3, ← hz2]
      exact heap_alloc_new _ _
    have hk3l : w.heap.size + 2 < W3.heap.size := cell_lt hk3
    have hb3d : Below W2.heap.size W2 W3.drew := hb3.drew
    have SE := Lib.hid (search_any (hi - lo) (.pointer (some ⟨w.heap.size, 0, none⟩)) (.pointer (some ⟨w.heap.size + 1, 0, none⟩)) (.pointer (some ⟨w.heap.size + 2, 0, none⟩)) (fun k => decide (m < n * (lo + k + 1))) W3.drew (by omega)
      (fun h W' hh hb => TA.out lo h (w.heap.size + 2) W' (Nb hb3d hb) (by omega) ((hb.cell (p := ⟨w.heap.size + 2, 0, none⟩) hk3l).trans hk3)))
    have wsub : IntKind.i64.wrap ((hi : Int) - (lo : Int)) = ((hi - lo : Nat) : Int) := by rw [IntKind.wrap_i64]; omega
    have HHI := Lib.hid (And.intro HH hlh)
    clear hW3 hz2 TA HH hlh AB1 AB2 HW1 HW2 hdm hdn hvm hvn hPm hPn
    go_region_held3 (fun w' => w'.cell? ⟨w.heap.size + 2, 0, none⟩ = some (.int .i64 (lo : Int))) (first | exact hk3 | exact q3 | go_keep)
      (first
        | (go_at_call 121
           (with_reducible refine SE.out.mono ?_)
           rintro e w4 ⟨k, hkn, rfl, H1, H2, hb4⟩
           have q3 := (hb4.cell (p := ⟨w.heap.size + 2, 0, none⟩) hk3l).trans hk3
           have wadd : IntKind.i64.wrap ((lo : Int) + (k : Int)) = ((lo + k : Nat) : Int) := by have := HHI.out; rw [IntKind.wrap_i64]; omega
           have hb4' := Nb hbW (Nb hb3d hb4))
        | fail)
    go_wp2
    go_ret
    refine ⟨?_, hb4'⟩
    have e := FD.out k hkn (by
      rcases H1.out with h | h
      · exact .inl h
      · exact .inr (by simpa using h)) (by
      rcases H2.out with h | h
      · exact .inl h
      · exact .inr (by simpa using h))
    exact ret_int (by rw [← e, Int.natCast_add])
end Go.Proofs.YtmnnaaifebajnaaGreatDoor
