/- Quotient and remainder of numbers in limbs; the greatest common divisor. -/
import Derived.Test.YtmnnaaifebajnaaGreatDoorNaG
set_option linter.unusedSimpArgs false
set_option linter.unusedVariables false
namespace Go.Proofs.YtmnnaaifebajnaaGreatDoor
open Go.RowKit
set_option maxRecDepth 100000

theorem OwnZ.keep {w w' : World} {B g c : Nat} {l : List Int} (h : OwnZ w B g c l) (hb : Below w.heap.size w w') : OwnZ w' B g c l := by
  unfold OwnZ at h ⊢
  exact World.ownsRow.kept h (row := none) ⟨hb.os, hb.tape, hb.output, hb.size, fun i hi _ => hb.block i hi⟩ (.inr (by simp [Value.ownBlock]))

/-- What was concatenated, trimmed: the number. -/
theorem OwnZ.lim {w : World} {B g c : Nat} {p : List Nat} (h : OwnZ w B g c (p.map fun d : Nat => (d : Int))) (hp : ∀ d ∈ p, d < 1000000) : Ints w w.heap.size (some ⟨g, 0, none⟩) (Na.lim (Na.lv p)) := by
  have h1 := Na.lim_take p hp
  have h2 := (h.ints (p := p) rfl).take (Na.lim (Na.lv p)).length
  rwa [← h1] at h2

theorem ints_drop {w : World} {B : Nat} {ad : Addr} {l : List Nat} (h : Ints w B (some ad) l) (k : Nat) : Ints w B (some (ad.add k)) (l.drop k) := by
  intro j hj
  rw [List.length_drop] at hj
  obtain ⟨ad', e, h1, h2⟩ := h (k + j) (by omega)
  cases e
  refine ⟨_, rfl, ?_, ?_⟩
  · unfold Addr.add
    split <;> exact h1
  · rw [Addr.add_add, h2, List.getD_eq_getElem?_getD, List.getD_eq_getElem?_getD, List.getElem?_drop]

theorem Ints.set {w : World} {g g2 : Nat} {l : List Nat} (h : Ints w w.heap.size (some ⟨g2, 0, none⟩) l) (hne : g2 ≠ g) (i : Nat) (v : Value) : Ints (w.setCell ⟨g, i, none⟩ v) (w.setCell ⟨g, i, none⟩ v).heap.size (some ⟨g2, 0, none⟩) l := by
  intro k hk
  obtain ⟨ad', e, h1, h2⟩ := h k hk
  cases e
  refine ⟨_, rfl, ?_, ?_⟩
  · have : (w.setCell ⟨g, i, none⟩ v).heap.size = w.heap.size := by simp
    rw [this]
    exact h1
  · have e : ((⟨g2, 0, none⟩ : Addr).add k).block = g2 := by
      unfold Addr.add
      split <;> rfl
    have hh : (w.setCell ⟨g, i, none⟩ v).heap[g2]? = w.heap[g2]? := heap_setCell_other w ⟨g, i, none⟩ g2 v hne
    rw [← h2]
    unfold World.cell?
    rw [e, hh]

def GivesQ (m n : Nat) (w : World) (e : Ending) (w' : World) : Prop :=
  ∃ Aq cq Ar cr, e = .returned (.tuple #[.slice Aq (Na.lim (m / n)).length cq, .slice Ar (Na.lim (m % n)).length cr]) ∧ Ints w' w'.heap.size Aq (Na.lim (m / n)) ∧ (Na.lim (m / n)).length ≤ cq ∧ cq ≤ maxLen ∧ Ints w' w'.heap.size Ar (Na.lim (m % n)) ∧ (Na.lim (m % n)).length ≤ cr ∧ cr ≤ maxLen ∧ Below w.heap.size w w'

set_option maxHeartbeats 1000000 in
theorem divided_any (A A' : Option Addr) (m n c c' : Nat) (w : World) (hs : Ints w w.heap.size A (Na.lim m)) (hs' : Ints w w.heap.size A' (Na.lim n)) (hl : (Na.lim m).length ≤ 60) (hl' : (Na.lim n).length ≤ 60) (hc : (Na.lim m).length ≤ c) (hcm : c ≤ maxLen) (hc' : (Na.lim n).length ≤ c') (hcm' : c' ≤ maxLen) (hn : 0 < n) :
    Calls Tryz.prog 81 #[.slice A (Na.lim m).length c, .slice A' (Na.lim n).length c'] w (GivesQ m n w) := by
  unfold GivesQ
  by_cases hlt : (Na.lim m).length < (Na.lim n).length
  · have hmn := Na.lim_longer hlt
    rw [Nat.div_eq_of_lt hmn, Nat.mod_eq_of_lt hmn, Na.lim_zero]
    have HS := Lib.hid hs
    clear hs hs'
    go_enter Tryz.func81, Tryz.ntmps81
    go_wp2
    go_ret2
    exact ⟨none, 0, A, c, rfl, fun k hk => absurd hk (by simp), by simp, by simp [maxLen], HS.out, hc, hcm, Below.refl _ _⟩
  · have hb1 : 1 ≤ (Na.lim n).length := by
      rcases Nat.eq_zero_or_pos (Na.lim n).length with h | h
      · have := Na.lim_nil.1 (List.eq_nil_of_length_eq_zero h); omega
      · exact h
    obtain ⟨ad, rfl, _, _⟩ := hs 0 (by omega)
    obtain ⟨C, hC⟩ : ∃ C, C = (Na.lim m).length - (Na.lim n).length + 1 := ⟨_, rfl⟩
    have hCi : ((Na.lim m).length : Int) - ((Na.lim n).length : Int) + 1 = (C : Int) := by omega
    have hC1 : 1 ≤ C := by omega
    have hC60 : C ≤ 60 := by omega
    have hCl : C ≤ (Na.lim m).length := by omega
    have hCc : C ≤ c := by omega
    have HCi := Lib.hid hCi
    have HS := Lib.hid hs
    have HS' := Lib.hid hs'
    unfold maxLen at hcm hcm'
    clear hs hs' hCi hC
    by_cases hcC : ¬ c = (Na.lim m).length - (Na.lim n).length + 1
    · go_enter Tryz.func81, Tryz.ntmps81
      go_wp2_with (first
        | (at_make
           refine list_make rfl (.tmp 20) (.tmp 20) 72 rfl rfl C (by omega) (by show Value.int .i64 _ = _; rw [← HCi.out]) (by show Value.int .i64 _ = _; rw [← HCi.out]) ?_
           intro w1 hh1 hb1
           have HH1 := Lib.hid hh1
           clear hh1)
        | fail)
      generalize hr0 : Value.slice (some (ad.add ((Na.lim m).length - (Na.lim n).length + 1))) ((Na.lim m).length - ((Na.lim m).length - (Na.lim n).length + 1)) (c - ((Na.lim m).length - (Na.lim n).length + 1)) = r0
      have HR0 := Lib.hid hr0
      clear hr0
      go_loopw [5, 7] (fun r i wr => ∃ (j R : Nat) (Ar : Option Addr) (cr : Nat) (ql : List Nat), j ≤ C ∧ i = .int .i64 ((j : Int) - 1) ∧ r = .slice Ar (Na.lim R).length cr ∧ Hid (Ints wr wr.heap.size Ar (Na.lim R)) ∧ (Na.lim R).length ≤ cr ∧ cr ≤ maxLen ∧ Hid (R < n) ∧ Hid (ql.length = C) ∧ Hid (∀ d ∈ ql, d < 1000000) ∧ Hid (OwnZ wr w.heap.size w.heap.size C (ql.map fun d : Nat => (d : Int))) ∧ Hid (Na.lv ((Na.lim m).drop j) = Na.lv (ql.drop j) * n + R) ∧ Below w.heap.size w wr) (fun _ i _ => (intOf i + 1).toNat)
      case atStart =>
        refine ⟨C, Na.lv ((Na.lim m).drop C), some (ad.add C), c - C, List.replicate C 0, Nat.le_refl _, ?_, ?_, Lib.hid ?_, ?_, ?_, Lib.hid ?_, Lib.hid (by simp), Lib.hid ?_, Lib.hid ?_, Lib.hid ?_, hb1⟩
        · congr 1; have := HCi.out; omega
        · have hCe : (Na.lim m).length - (Na.lim n).length + 1 = C := by have := HCi.out; omega
          rw [← HR0.out, Na.lim_drop, List.length_drop, hCe]
          skip
        · rw [Na.lim_drop]
          exact (ints_drop (HS.out.bt hb1) C)
        · rw [Na.lim_drop, List.length_drop]; have := HCi.out; omega
        · unfold maxLen; omega
        · refine Na.lim_longer ?_
          rw [Na.lim_drop, List.length_drop]; have := HCi.out; omega
        · intro d hd; have := (List.mem_replicate.1 hd).2; omega
        · have := own_of_row HH1.out (Nat.le_refl _) (by rw [List.length_replicate]; unfold maxLen; omega)
          rw [List.length_replicate] at this
          simpa using this
        · rw [show (List.replicate C 0).drop C = [] by simp, Na.lv_nil]; omega
      case round =>
        clear HH1 hb1 HR0
        obtain ⟨j, R, Ar, cr, ql, hj, eij, rfl, HR, hcr, hcrm, HRn, HQL, HQD, HO, HE, hb⟩ := hrel
        by_cases h0 : j = 0
        · subst h0
          subst eij
          have he : Na.lv (Na.lim m) = Na.lv ql * n + R := HE.out
          rw [Na.lv_lim] at he
          have hqr := Na.quot_rem m n (Na.lv ql) R he HRn.out
          have TR := trimmed_any (some ⟨w.heap.size, 0, none⟩) ql C wr (HO.out.ints rfl) (by rw [HQL.out]; omega) (by rw [HQL.out]; omega) (by unfold maxLen; omega) HQD.out
          rw [HQL.out] at TR
          have HI := Lib.hid (HO.out.lim HQD.out)
          have hqc : (Na.lim (Na.lv ql)).length ≤ C := by
            have := Na.lim_take ql HQD.out
            rw [this, List.length_take, HQL.out]
            omega
          rw [← hqr.1] at TR HI hqc
          have HR2 := HR
          rw [← hqr.2] at hcr HR2
          have HRe := Lib.hid hqr.2
          have HTR := Lib.hid TR
          clear hqr he TR HO HE HQL HQD HR
          go_wp2_with fail
          refine HTR.out.mono ?_
          rintro e w3 ⟨rfl, rfl⟩
          go_wp2_with fail
          go_ret2
          refine ⟨some ⟨w.heap.size, 0, none⟩, C, Ar, cr, ?_, HI.out, hqc, by unfold maxLen; omega, HR2.out, hcr, hcrm, hb⟩
          rw [HRe.out]
          rfl
        · obtain ⟨i, rfl⟩ : ∃ i, j = i + 1 := ⟨j - 1, by omega⟩
          obtain rfl := eij.trans (show Value.int .i64 (((i + 1 : Nat) : Int) - 1) = .int .i64 (i : Int) by congr 1; omega)
          clear eij
          have hila : i < (Na.lim m).length := by omega
          obtain ⟨ad', e, _, hcx⟩ := (HS.out.bt hb) i hila
          cases e
          have hxl := Na.getD_lt (Na.lim_lt m) i hila
          obtain ⟨x, hx⟩ : ∃ x, x = (Na.lim m).getD i 0 := ⟨_, rfl⟩
          rw [← hx] at hcx hxl
          have RE := Lib.hid (Na.round_eq m n i R x (Na.lv (ql.drop (i + 1))) HE.out hx hila hn)
          obtain ⟨l1, l2, l3⟩ := Na.round_lt n R x HRn.out hxl
          have hRl : (Na.lim R).length ≤ 61 := by
            have : (Na.lim R).length ≤ (Na.lim n).length := Na.lim_length.2 (Nat.lt_trans HRn.out (Na.lim_length.1 (Nat.le_refl _)))
            omega
          have hR'l : (Na.lim (x + 1000000 * R)).length ≤ 61 := by
            refine Nat.le_trans ((Na.lim_length (k := (Na.lim n).length + 1)).2 ?_) (by omega)
            rw [Nat.pow_succ]
            have := Na.lim_length.1 (Nat.le_refl (Na.lim n).length)
            omega
          have hle : n * ((x + 1000000 * R) / n) ≤ x + 1000000 * R := Nat.mul_div_le _ _
          obtain ⟨X1, hX1⟩ : ∃ X1, X1 = wr.alloc (.cells #[.int .i64 (x : Int)] 3) := ⟨_, rfl⟩
          obtain ⟨X2, hX2⟩ : ∃ X2, X2 = X1.alloc (.cells #[.slice (some ⟨wr.heap.size, 0, none⟩) 1 1, .slice Ar (Na.lim R).length cr] 72) := ⟨_, rfl⟩
          have hz1 : X1.heap.size = wr.heap.size + 1 := by rw [hX1]; exact Array.size_push ..
          have hbX1 : Below wr.heap.size wr X1 := by rw [hX1]; exact (Below.refl _ _).alloc (Nat.le_refl _) _
          have hb12 : Below X1.heap.size X1 X2 := by rw [hX2]; exact (Below.refl _ _).alloc (Nat.le_refl _) _
          have hbX : Below wr.heap.size wr X2 := Nb hbX1 hb12
          have hx0 : X2.heap[wr.heap.size + 1]? = some (.cells #[.slice (some ⟨wr.heap.size, 0, none⟩) 1 1, .slice Ar (Na.lim R).length cr] 72 (0, 0)) := by
            rw [hX2, ← hz1]; exact heap_alloc_new _ _
          have hx1 : Ints X1 X1.heap.size (some ⟨wr.heap.size, 0, none⟩) [x] := box_ints (by rw [hX1]; exact heap_alloc_new _ _)
          have CC := Lib.hid (concat_any (wr.heap.size + 1) ⟨wr.heap.size, 0, none⟩ Ar x (Na.lim R) cr X2 (by simp [World.cell?, hx0]) (by simp [World.cell?, hx0]) (Array.getElem?_eq_some_iff.1 hx0).1 (hx1.bt hb12) (HR.out.bt hbX) (by omega))
          have hXs : wr.heap.size + 1 < X2.heap.size := (Array.getElem?_eq_some_iff.1 hx0).1
          have HX1 := Lib.hid hX1
          have HX2 := Lib.hid hX2
          have TR := Lib.hid (fun (W : World) (g2 cap2 : Nat) (ho : OwnZ W X2.heap.size g2 cap2 ((x :: Na.lim R).map fun d : Nat => (d : Int))) => by
            have h1 : ∀ d ∈ x :: Na.lim R, d < 1000000 := by
              intro d hd
              rcases List.mem_cons.1 hd with rfl | hd
              · exact hxl
              · exact Na.lim_lt R d hd
            have hll : (x :: Na.lim R).length = 1 + (Na.lim R).length := by simp; omega
            have hf := ho.facts
            have t1 := trimmed_any (some ⟨g2, 0, none⟩) (x :: Na.lim R) cap2 W (ho.ints rfl) (by rw [hll]; omega) (by simpa using hf.2.2.1) hf.2.2.2 h1
            have t2 := ho.lim h1
            have e : Na.lv (x :: Na.lim R) = x + 1000000 * R := by rw [Na.lv_cons, Na.lv_lim]
            rw [e] at t1 t2
            rw [hll] at t1
            exact And.intro t1 t2)
          have HRE := Lib.hid (And.intro l3 hle)
          have HIL := Lib.hid hila
          clear hX1 hX2 hx0 hx1 hbX1 hb12 hx hz1 HE hxl
          have hiC : i < C := by omega
          have hiCi : (i : Int) < (C : Int) := by omega
          generalize x + 1000000 * R = R' at *
          go_wp2_with fail
          rw [← HX1.out, ← HX2.out]
          refine CC.out.mono ?_
          rintro e w2 ⟨g2, cap2, rfl, ho2, hb2⟩
          have T2 := TR.out w2 g2 cap2 ho2
          have HT1 := Lib.hid T2.1
          have HT2 := Lib.hid T2.2
          have hcap2 := ho2.facts.2.2
          have hg2X : w.heap.size < g2 := by
            have h1 := ho2.facts.1
            have h2 := hb.size
            have h3 := hXs
            omega
          have hbw2 : Below wr.heap.size wr w2 := Nb hbX hb2
          clear T2 ho2 CC TR HX1 HX2 HR
          go_wp2_with fail
          refine HT1.out.mono ?_
          rintro e w2' ⟨rfl, rfl⟩
          have hbww := Nb hb hbw2
          have QC := Lib.hid (quotient_any (some ⟨g2, 0, none⟩) A' R' n cap2 c' w2 HT2.out (HS'.out.bt hbww) hl' hn l1)
          clear HT1
          go_wp2_with fail
          refine QC.out.mono ?_
          rintro e w3 ⟨rfl, hb3⟩
          have hb3w := Nb hbww hb3
          have HO3 := Lib.hid (HO.out.keep (Nb hbw2 hb3))
          have hfr := HO3.out.frozen i
          have hcl3 := HO3.out.cell i (by rw [List.length_map, HQL.out]; exact hiC)
          have HI3 := Lib.hid (HT2.out.bt hb3)
          have HO4 := Lib.hid (HO3.out.stored i ((R' / n : Nat) : Int))
          have HB4 := Lib.hid (HO3.out.below (Below.refl w.heap.size w3) i ((R' / n : Nat) : Int))
          have hszs : (w3.setCell ⟨w.heap.size, i, none⟩ (.int .i64 ((R' / n : Nat) : Int))).heap.size = w3.heap.size := by simp
          clear QC HO HT2
          generalize hqd : R' / n = qd at *
          have hg2 : g2 ≠ w.heap.size := by have := hg2X; omega
          obtain ⟨w4, hw4⟩ : ∃ w4, w4 = w3.setCell ⟨w.heap.size, i, none⟩ (.int .i64 (qd : Int)) := ⟨_, rfl⟩
          have HI4 := Lib.hid (HI3.out.set hg2 i (.int .i64 (qd : Int)))
          rw [← hw4] at HI4 HO4 HB4 hszs
          obtain ⟨X5, hX5⟩ : ∃ X5, X5 = w4.alloc (.cells #[.int .i64 (qd : Int)] 3) := ⟨_, rfl⟩
          have hb5 : Below w4.heap.size w4 X5 := by rw [hX5]; exact (Below.refl _ _).alloc (Nat.le_refl _) _
          have hbx : X5.heap[w3.heap.size]? = some (.cells #[.int .i64 (qd : Int)] 3 (0, 0)) := by rw [hX5, ← hszs]; exact heap_alloc_new _ _
          have hbw4 : Below w.heap.size w w4 := hb3w.trans HB4.out
          have hbw5 : Below w.heap.size w X5 := hbw4.trans (hb5.mono hbw4.size)
          have TI : Hid (Calls Tryz.prog 93 #[.slice A' (Na.lim n).length c', .slice (some ⟨w3.heap.size, 0, none⟩) 1 1] X5 (GivesN (n * qd) X5)) := by
            refine Lib.hid ?_
            have e0 : Na.lv (Na.lim n) * Na.lv [qd] = n * qd := by rw [Na.lv_lim, Na.lv_cons, Na.lv_nil]; simp
            have hnt : n * qd < 1000000 ^ ((Na.lim n).length + 1) := by
              rw [Nat.pow_succ]
              have := Na.lim_length.1 (Nat.le_refl (Na.lim n).length)
              omega
            have := times_any A' (some ⟨w3.heap.size, 0, none⟩) (Na.lim n) [qd] c' 1 X5 (HS'.out.bt hbw5) (box_ints hbx) (by omega) (by simp) (fun d hd => by have := Na.lim_lt n d hd; omega) (fun d hd => by rw [show d = qd by simpa using hd]; omega) (by rw [e0]; simpa using hnt)
            rwa [e0] at this
          have HW4 := Lib.hid hw4
          have HX5 := Lib.hid hX5
          clear hX5 hw4 hszs hbx
          go_wp2_with fail
          rw [← HW4.out, ← HX5.out]
          refine TI.out.mono ?_
          rintro e w6 ⟨A6, c6, rfl, hi6, hc6, hcm6, hb6⟩
          have MI := Lib.hid (minus_any (some ⟨g2, 0, none⟩) A6 R' (n * qd) cap2 c6 w6 ((HI4.out.bt hb5).bt hb6) hi6 (by omega) hcap2.2 hle)
          clear hi6
          go_wp2_with fail
          refine MI.out.mono ?_
          rintro e w7 ⟨A7, c7, rfl, hi7, hc7, hcm7, hb7⟩
          have hb47 : Below w4.heap.size w4 w7 := Nb (Nb hb5 hb6) hb7
          have HI7 := Lib.hid hi7
          have HO7 := Lib.hid (HO4.out.keep hb47)
          clear hi7 HO4 MI TI HX5 HW4
          go_wp2_with fail
          refine ⟨⟨i, R' - n * qd, A7, c7, ql.set i qd, by omega, by go_num, rfl, HI7, hc7, hcm7, Lib.hid HRE.out.1, Lib.hid (by rw [List.length_set]; exact HQL.out), Lib.hid ?_, Lib.hid ?_, Lib.hid ?_, hbw4.trans (hb47.mono hbw4.size)⟩, by simp [intOf]⟩
          · intro d hd
            rcases List.mem_or_eq_of_mem_set hd with h | h
            · exact HQD.out d h
            · omega
          · rw [List.map_set]
            exact HO7.out
          · rw [Na.lv_set_drop ql i qd (by rw [HQL.out]; exact hiC)]
            exact RE.out
    · have hcC' : c = (Na.lim m).length - (Na.lim n).length + 1 := Classical.not_not.1 hcC
      clear hcC
      go_enter Tryz.func81, Tryz.ntmps81
      go_wp2_with (first
        | (at_make
           refine list_make rfl (.tmp 20) (.tmp 20) 72 rfl rfl C (by omega) (by show Value.int .i64 _ = _; rw [← HCi.out]) (by show Value.int .i64 _ = _; rw [← HCi.out]) ?_
           intro w1 hh1 hb1
           have HH1 := Lib.hid hh1
           clear hh1)
        | fail)
      generalize hr0 : Value.slice (some ad) ((Na.lim m).length - ((Na.lim m).length - (Na.lim n).length + 1)) ((Na.lim m).length - (Na.lim n).length + 1 - ((Na.lim m).length - (Na.lim n).length + 1)) = r0
      have HR0 := Lib.hid hr0
      clear hr0
      go_loopw [5, 7] (fun r i wr => ∃ (j R : Nat) (Ar : Option Addr) (cr : Nat) (ql : List Nat), j ≤ C ∧ i = .int .i64 ((j : Int) - 1) ∧ r = .slice Ar (Na.lim R).length cr ∧ Hid (Ints wr wr.heap.size Ar (Na.lim R)) ∧ (Na.lim R).length ≤ cr ∧ cr ≤ maxLen ∧ Hid (R < n) ∧ Hid (ql.length = C) ∧ Hid (∀ d ∈ ql, d < 1000000) ∧ Hid (OwnZ wr w.heap.size w.heap.size C (ql.map fun d : Nat => (d : Int))) ∧ Hid (Na.lv ((Na.lim m).drop j) = Na.lv (ql.drop j) * n + R) ∧ Below w.heap.size w wr) (fun _ i _ => (intOf i + 1).toNat)
      case atStart =>
        refine ⟨C, Na.lv ((Na.lim m).drop C), some ad, 0, List.replicate C 0, Nat.le_refl _, ?_, ?_, Lib.hid ?_, ?_, ?_, Lib.hid ?_, Lib.hid (by simp), Lib.hid ?_, Lib.hid ?_, Lib.hid ?_, hb1⟩
        · congr 1; have := HCi.out; omega
        · have hCe : (Na.lim m).length - (Na.lim n).length + 1 = C := by have := HCi.out; omega
          rw [← HR0.out, Na.lim_drop, List.length_drop, hCe]
          simp
        · rw [Na.lim_drop]
          intro k hk; rw [List.length_drop] at hk; have := HCi.out; omega
        · rw [Na.lim_drop, List.length_drop]; have := HCi.out; omega
        · unfold maxLen; omega
        · refine Na.lim_longer ?_
          rw [Na.lim_drop, List.length_drop]; have := HCi.out; omega
        · intro d hd; have := (List.mem_replicate.1 hd).2; omega
        · have := own_of_row HH1.out (Nat.le_refl _) (by rw [List.length_replicate]; unfold maxLen; omega)
          rw [List.length_replicate] at this
          simpa using this
        · rw [show (List.replicate C 0).drop C = [] by simp, Na.lv_nil]; omega
      case round =>
        clear HH1 hb1 HR0
        obtain ⟨j, R, Ar, cr, ql, hj, eij, rfl, HR, hcr, hcrm, HRn, HQL, HQD, HO, HE, hb⟩ := hrel
        by_cases h0 : j = 0
        · subst h0
          subst eij
          have he : Na.lv (Na.lim m) = Na.lv ql * n + R := HE.out
          rw [Na.lv_lim] at he
          have hqr := Na.quot_rem m n (Na.lv ql) R he HRn.out
          have TR := trimmed_any (some ⟨w.heap.size, 0, none⟩) ql C wr (HO.out.ints rfl) (by rw [HQL.out]; omega) (by rw [HQL.out]; omega) (by unfold maxLen; omega) HQD.out
          rw [HQL.out] at TR
          have HI := Lib.hid (HO.out.lim HQD.out)
          have hqc : (Na.lim (Na.lv ql)).length ≤ C := by
            have := Na.lim_take ql HQD.out
            rw [this, List.length_take, HQL.out]
            omega
          rw [← hqr.1] at TR HI hqc
          have HR2 := HR
          rw [← hqr.2] at hcr HR2
          have HRe := Lib.hid hqr.2
          have HTR := Lib.hid TR
          clear hqr he TR HO HE HQL HQD HR
          go_wp2_with fail
          refine HTR.out.mono ?_
          rintro e w3 ⟨rfl, rfl⟩
          go_wp2_with fail
          go_ret2
          refine ⟨some ⟨w.heap.size, 0, none⟩, C, Ar, cr, ?_, HI.out, hqc, by unfold maxLen; omega, HR2.out, hcr, hcrm, hb⟩
          rw [HRe.out]
          rfl
        · obtain ⟨i, rfl⟩ : ∃ i, j = i + 1 := ⟨j - 1, by omega⟩
          obtain rfl := eij.trans (show Value.int .i64 (((i + 1 : Nat) : Int) - 1) = .int .i64 (i : Int) by congr 1; omega)
          clear eij
          have hila : i < (Na.lim m).length := by omega
          obtain ⟨ad', e, _, hcx⟩ := (HS.out.bt hb) i hila
          cases e
          have hxl := Na.getD_lt (Na.lim_lt m) i hila
          obtain ⟨x, hx⟩ : ∃ x, x = (Na.lim m).getD i 0 := ⟨_, rfl⟩
          rw [← hx] at hcx hxl
          have RE := Lib.hid (Na.round_eq m n i R x (Na.lv (ql.drop (i + 1))) HE.out hx hila hn)
          obtain ⟨l1, l2, l3⟩ := Na.round_lt n R x HRn.out hxl
          have hRl : (Na.lim R).length ≤ 61 := by
            have : (Na.lim R).length ≤ (Na.lim n).length := Na.lim_length.2 (Nat.lt_trans HRn.out (Na.lim_length.1 (Nat.le_refl _)))
            omega
          have hR'l : (Na.lim (x + 1000000 * R)).length ≤ 61 := by
            refine Nat.le_trans ((Na.lim_length (k := (Na.lim n).length + 1)).2 ?_) (by omega)
            rw [Nat.pow_succ]
            have := Na.lim_length.1 (Nat.le_refl (Na.lim n).length)
            omega
          have hle : n * ((x + 1000000 * R) / n) ≤ x + 1000000 * R := Nat.mul_div_le _ _
          obtain ⟨X1, hX1⟩ : ∃ X1, X1 = wr.alloc (.cells #[.int .i64 (x : Int)] 3) := ⟨_, rfl⟩
          obtain ⟨X2, hX2⟩ : ∃ X2, X2 = X1.alloc (.cells #[.slice (some ⟨wr.heap.size, 0, none⟩) 1 1, .slice Ar (Na.lim R).length cr] 72) := ⟨_, rfl⟩
          have hz1 : X1.heap.size = wr.heap.size + 1 := by rw [hX1]; exact Array.size_push ..
          have hbX1 : Below wr.heap.size wr X1 := by rw [hX1]; exact (Below.refl _ _).alloc (Nat.le_refl _) _
          have hb12 : Below X1.heap.size X1 X2 := by rw [hX2]; exact (Below.refl _ _).alloc (Nat.le_refl _) _
          have hbX : Below wr.heap.size wr X2 := Nb hbX1 hb12
          have hx0 : X2.heap[wr.heap.size + 1]? = some (.cells #[.slice (some ⟨wr.heap.size, 0, none⟩) 1 1, .slice Ar (Na.lim R).length cr] 72 (0, 0)) := by
            rw [hX2, ← hz1]; exact heap_alloc_new _ _
          have hx1 : Ints X1 X1.heap.size (some ⟨wr.heap.size, 0, none⟩) [x] := box_ints (by rw [hX1]; exact heap_alloc_new _ _)
          have CC := Lib.hid (concat_any (wr.heap.size + 1) ⟨wr.heap.size, 0, none⟩ Ar x (Na.lim R) cr X2 (by simp [World.cell?, hx0]) (by simp [World.cell?, hx0]) (Array.getElem?_eq_some_iff.1 hx0).1 (hx1.bt hb12) (HR.out.bt hbX) (by omega))
          have hXs : wr.heap.size + 1 < X2.heap.size := (Array.getElem?_eq_some_iff.1 hx0).1
          have HX1 := Lib.hid hX1
          have HX2 := Lib.hid hX2
          have TR := Lib.hid (fun (W : World) (g2 cap2 : Nat) (ho : OwnZ W X2.heap.size g2 cap2 ((x :: Na.lim R).map fun d : Nat => (d : Int))) => by
            have h1 : ∀ d ∈ x :: Na.lim R, d < 1000000 := by
              intro d hd
              rcases List.mem_cons.1 hd with rfl | hd
              · exact hxl
              · exact Na.lim_lt R d hd
            have hll : (x :: Na.lim R).length = 1 + (Na.lim R).length := by simp; omega
            have hf := ho.facts
            have t1 := trimmed_any (some ⟨g2, 0, none⟩) (x :: Na.lim R) cap2 W (ho.ints rfl) (by rw [hll]; omega) (by simpa using hf.2.2.1) hf.2.2.2 h1
            have t2 := ho.lim h1
            have e : Na.lv (x :: Na.lim R) = x + 1000000 * R := by rw [Na.lv_cons, Na.lv_lim]
            rw [e] at t1 t2
            rw [hll] at t1
            exact And.intro t1 t2)
          have HRE := Lib.hid (And.intro l3 hle)
          have HIL := Lib.hid hila
          clear hX1 hX2 hx0 hx1 hbX1 hb12 hx hz1 HE hxl
          have hiC : i < C := by omega
          have hiCi : (i : Int) < (C : Int) := by omega
          generalize x + 1000000 * R = R' at *
          go_wp2_with fail
          rw [← HX1.out, ← HX2.out]
          refine CC.out.mono ?_
          rintro e w2 ⟨g2, cap2, rfl, ho2, hb2⟩
          have T2 := TR.out w2 g2 cap2 ho2
          have HT1 := Lib.hid T2.1
          have HT2 := Lib.hid T2.2
          have hcap2 := ho2.facts.2.2
          have hg2X : w.heap.size < g2 := by
            have h1 := ho2.facts.1
            have h2 := hb.size
            have h3 := hXs
            omega
          have hbw2 : Below wr.heap.size wr w2 := Nb hbX hb2
          clear T2 ho2 CC TR HX1 HX2 HR
          go_wp2_with fail
          refine HT1.out.mono ?_
          rintro e w2' ⟨rfl, rfl⟩
          have hbww := Nb hb hbw2
          have QC := Lib.hid (quotient_any (some ⟨g2, 0, none⟩) A' R' n cap2 c' w2 HT2.out (HS'.out.bt hbww) hl' hn l1)
          clear HT1
          go_wp2_with fail
          refine QC.out.mono ?_
          rintro e w3 ⟨rfl, hb3⟩
          have hb3w := Nb hbww hb3
          have HO3 := Lib.hid (HO.out.keep (Nb hbw2 hb3))
          have hfr := HO3.out.frozen i
          have hcl3 := HO3.out.cell i (by rw [List.length_map, HQL.out]; exact hiC)
          have HI3 := Lib.hid (HT2.out.bt hb3)
          have HO4 := Lib.hid (HO3.out.stored i ((R' / n : Nat) : Int))
          have HB4 := Lib.hid (HO3.out.below (Below.refl w.heap.size w3) i ((R' / n : Nat) : Int))
          have hszs : (w3.setCell ⟨w.heap.size, i, none⟩ (.int .i64 ((R' / n : Nat) : Int))).heap.size = w3.heap.size := by simp
          clear QC HO HT2
          generalize hqd : R' / n = qd at *
          have hg2 : g2 ≠ w.heap.size := by have := hg2X; omega
          obtain ⟨w4, hw4⟩ : ∃ w4, w4 = w3.setCell ⟨w.heap.size, i, none⟩ (.int .i64 (qd : Int)) := ⟨_, rfl⟩
          have HI4 := Lib.hid (HI3.out.set hg2 i (.int .i64 (qd : Int)))
          rw [← hw4] at HI4 HO4 HB4 hszs
          obtain ⟨X5, hX5⟩ : ∃ X5, X5 = w4.alloc (.cells #[.int .i64 (qd : Int)] 3) := ⟨_, rfl⟩
          have hb5 : Below w4.heap.size w4 X5 := by rw [hX5]; exact (Below.refl _ _).alloc (Nat.le_refl _) _
          have hbx : X5.heap[w3.heap.size]? = some (.cells #[.int .i64 (qd : Int)] 3 (0, 0)) := by rw [hX5, ← hszs]; exact heap_alloc_new _ _
          have hbw4 : Below w.heap.size w w4 := hb3w.trans HB4.out
          have hbw5 : Below w.heap.size w X5 := hbw4.trans (hb5.mono hbw4.size)
          have TI : Hid (Calls Tryz.prog 93 #[.slice A' (Na.lim n).length c', .slice (some ⟨w3.heap.size, 0, none⟩) 1 1] X5 (GivesN (n * qd) X5)) := by
            refine Lib.hid ?_
            have e0 : Na.lv (Na.lim n) * Na.lv [qd] = n * qd := by rw [Na.lv_lim, Na.lv_cons, Na.lv_nil]; simp
            have hnt : n * qd < 1000000 ^ ((Na.lim n).length + 1) := by
              rw [Nat.pow_succ]
              have := Na.lim_length.1 (Nat.le_refl (Na.lim n).length)
              omega
            have := times_any A' (some ⟨w3.heap.size, 0, none⟩) (Na.lim n) [qd] c' 1 X5 (HS'.out.bt hbw5) (box_ints hbx) (by omega) (by simp) (fun d hd => by have := Na.lim_lt n d hd; omega) (fun d hd => by rw [show d = qd by simpa using hd]; omega) (by rw [e0]; simpa using hnt)
            rwa [e0] at this
          have HW4 := Lib.hid hw4
          have HX5 := Lib.hid hX5
          clear hX5 hw4 hszs hbx
          go_wp2_with fail
          rw [← HW4.out, ← HX5.out]
          refine TI.out.mono ?_
          rintro e w6 ⟨A6, c6, rfl, hi6, hc6, hcm6, hb6⟩
          have MI := Lib.hid (minus_any (some ⟨g2, 0, none⟩) A6 R' (n * qd) cap2 c6 w6 ((HI4.out.bt hb5).bt hb6) hi6 (by omega) hcap2.2 hle)
          clear hi6
          go_wp2_with fail
          refine MI.out.mono ?_
          rintro e w7 ⟨A7, c7, rfl, hi7, hc7, hcm7, hb7⟩
          have hb47 : Below w4.heap.size w4 w7 := Nb (Nb hb5 hb6) hb7
          have HI7 := Lib.hid hi7
          have HO7 := Lib.hid (HO4.out.keep hb47)
          clear hi7 HO4 MI TI HX5 HW4
          go_wp2_with fail
          refine ⟨⟨i, R' - n * qd, A7, c7, ql.set i qd, by omega, by go_num, rfl, HI7, hc7, hcm7, Lib.hid HRE.out.1, Lib.hid (by rw [List.length_set]; exact HQL.out), Lib.hid ?_, Lib.hid ?_, Lib.hid ?_, hbw4.trans (hb47.mono hbw4.size)⟩, by simp [intOf]⟩
          · intro d hd
            rcases List.mem_or_eq_of_mem_set hd with h | h
            · exact HQD.out d h
            · omega
          · rw [List.map_set]
            exact HO7.out
          · rw [Na.lv_set_drop ql i qd (by rw [HQL.out]; exact hiC)]
            exact RE.out
end Go.Proofs.YtmnnaaifebajnaaGreatDoor
