/- The program's Local, Instant, Begin (layer 6). -/
import Derived.Test.YtkkgefefbamcpaaDoorClC
set_option linter.unusedSimpArgs false
set_option linter.unusedVariables false
namespace Go.Proofs.YtkkgefefbamcpaaDoor
open Go.RowKit Go.Shelf
set_option maxRecDepth 100000
attribute [local go_sem] Oper.semAt_some

set_option maxHeartbeats 1000000 in
theorem local_any (A : Option Addr) (c : Nat) (zs : List Cl.Sh) (t : Int) (w : World) (hz : Zn w w.heap.size A zs) :
    Calls Tryd.prog 13 #[.agg #[.slice A zs.length c], .int .i64 t] w fun e w' => e = .returned (.tuple #[.int .i64 (Cl.locF zs t).1, .int .i64 (Cl.locF zs t).2.1, .int .i64 (Cl.locF zs t).2.2]) ∧ Below w.heap.size w w' := by
  have hb0 := Cl.al w (.cells #[.slice A zs.length c] 24)
  have HV := Lib.hid (valid_any A c zs _ (hz.bt hb0))
  have HI := Lib.hid (fun v => Cl.isInstant_any t v)
  cases hv : Cl.vz zs
  · have he : Cl.locF zs t = (0, 0, 1) := by unfold Cl.locF; rw [hv]; rfl
    rw [he]
    rw [hv] at HV
    clear hv he hz
    go_enter Tryd.func13, Tryd.ntmps13
    go_wp2_with fail
    refine HV.out.mono ?_
    rintro e w1 ⟨rfl, hb1⟩
    have hb := Cl.Nb hb0 hb1
    clear hb0 hb1
    go_wp2_with fail
    go_ret3
    exact ⟨rfl, hb⟩
  · rw [hv] at HV
    cases hi : Cl.isI t
    · have he : Cl.locF zs t = (0, 0, 1) := by unfold Cl.locF; rw [hi, Bool.and_false]; rfl
      rw [he]
      rw [hi] at HI
      clear hv he hz hi
      go_enter Tryd.func13, Tryd.ntmps13
      go_wp2_with fail
      refine HV.out.mono ?_
      rintro e w1 ⟨rfl, hb1⟩
      have hb := Cl.Nb hb0 hb1
      clear hb0 hb1
      go_wp2_with fail
      refine (HI.out _).mono ?_
      rintro e w2 ⟨rfl, rfl⟩
      go_wp2_with fail
      go_ret3
      exact ⟨rfl, hb⟩
    · rw [hi] at HI
      have g := Cl.good_of zs hv
      have hlb := Cl.loc_bound g t
      have he : Cl.locF zs t = ((Cl.loc zs t + 1440) / 1440 - 1, (Cl.loc zs t + 1440) % 1440, 0) := by unfold Cl.locF; rw [hv, hi]; rfl
      have ht : 0 ≤ t ∧ t ≤ 144001439 := by
        unfold Cl.isI at hi
        simpa using hi
      have HO := Lib.hid (fun v (h : Below w.heap.size w v) => offset_any A c zs t v g.few (hz.bt h))
      have he2 : Cl.offW 0 (Cl.sp zs) t = Cl.loc zs t - t := by unfold Cl.loc; omega
      rw [he]
      rw [he2] at HO
      have BZ := Lib.hid (Boxed.new w 24 (.slice A zs.length c))
      clear hv he hz hi he2 g
      generalize Cl.loc zs t = L at *
      obtain ⟨o, rfl⟩ : ∃ o, L = t + o := ⟨L - t, by omega⟩
      rw [show t + o - t = o by omega] at HO
      obtain ⟨ht0, ht1⟩ := ht
      have ho : -840 ≤ o ∧ o ≤ 840 := by omega
      obtain ⟨ho0, ho1⟩ := ho
      clear hlb
      go_enter Tryd.func13, Tryd.ntmps13
      go_wp2_with fail
      refine HV.out.mono ?_
      rintro e w1 ⟨rfl, hb1⟩
      have hb := Cl.Nb hb0 hb1
      have hc1 := Cl.cell_bt BZ.out.cell hb1
      clear hb0 hb1
      go_wp2_with fail
      refine (HI.out _).mono ?_
      rintro e w2 ⟨rfl, rfl⟩
      go_wp2_with fail
      refine (HO.out _ hb).mono ?_
      rintro e w3 ⟨rfl, hb3⟩
      have hb' := Cl.Nb hb hb3
      clear hb hb3 hc1
      go_wp2_with fail
      go_ret3
      exact ⟨rfl, hb'⟩

theorem Cl.boxed_bt {W W' : World} {B : Nat} {t : TypeId} {v : Value} (h : Boxed W B t v) (hb : Below W.heap.size W W') : Boxed W' B t v := (hb.block B h.lt).trans h

set_option maxHeartbeats 1000000 in
theorem instant_bad (A : Option Addr) (c : Nat) (zs : List Cl.Sh) (d m : Int) (w : World) (hz : Zn w w.heap.size A zs) (h : ¬ (Cl.vz zs && (decide (0 ≤ m) && decide (m < 1440))) = true) :
    Calls Tryd.prog 15 #[.agg #[.slice A zs.length c], .int .i64 d, .int .i64 m] w fun e w' => e = .returned (.tuple #[.int .i64 0, .int .i64 1]) ∧ Below w.heap.size w w' := by
  have hb0 := Cl.al3 w (.cells #[.slice A zs.length c] 24) (.cells #[.int .i64 0] 3) (.cells #[.int .i64 0] 27)
  have HV := Lib.hid (valid_any A c zs _ (hz.bt hb0))
  have b1 := (Boxed.new (w.alloc (.cells #[.slice A zs.length c] 24)) 3 (.int .i64 0)).alloc (.cells #[.int .i64 0] 27)
  have b2 := Boxed.new ((w.alloc (.cells #[.slice A zs.length c] 24)).alloc (.cells #[.int .i64 0] 3)) 27 (.int .i64 0)
  simp only [World.size_alloc] at b1 b2
  have hend : ∀ w1 : World, Below (((w.alloc (.cells #[.slice A zs.length c] 24)).alloc (.cells #[.int .i64 0] 3)).alloc (.cells #[.int .i64 0] 27)).heap.size (((w.alloc (.cells #[.slice A zs.length c] 24)).alloc (.cells #[.int .i64 0] 3)).alloc (.cells #[.int .i64 0] 27)) w1 →
      w1.cell? ⟨w.heap.size + 1, 0, none⟩ = some (.int .i64 0) ∧ w1.frozen? ⟨w.heap.size + 1, 0, none⟩ = false ∧ w1.cell? ⟨w.heap.size + 1 + 1, 0, none⟩ = some (.int .i64 0) ∧ w1.frozen? ⟨w.heap.size + 1 + 1, 0, none⟩ = false ∧
      ((w1.setCell ⟨w.heap.size + 1, 0, none⟩ (.int .i64 0)).setCell ⟨w.heap.size + 1 + 1, 0, none⟩ (.int .i64 1)).cell? ⟨w.heap.size + 1, 0, none⟩ = some (.int .i64 0) ∧
      ((w1.setCell ⟨w.heap.size + 1, 0, none⟩ (.int .i64 0)).setCell ⟨w.heap.size + 1 + 1, 0, none⟩ (.int .i64 1)).cell? ⟨w.heap.size + 1 + 1, 0, none⟩ = some (.int .i64 1) ∧
      Below w.heap.size w ((w1.setCell ⟨w.heap.size + 1, 0, none⟩ (.int .i64 0)).setCell ⟨w.heap.size + 1 + 1, 0, none⟩ (.int .i64 1)) := fun w1 hb1 => by
    have c1 := Cl.boxed_bt b1 hb1
    have c2 := Cl.boxed_bt b2 hb1
    exact ⟨c1.cell, c1.frozen, c2.cell, c2.frozen, ((c1.set (.int .i64 0)).other (by omega) _).cell, ((c2.other (by omega) _).set (.int .i64 1)).cell, ((Cl.Nb hb0 hb1).setCell (p := ⟨w.heap.size + 1, 0, none⟩) (by simp) _).setCell (p := ⟨w.heap.size + 1 + 1, 0, none⟩) (by simp; omega) _⟩
  have HE := Lib.hid hend
  clear hend hz b1 b2
  cases hv : Cl.vz zs
  · rw [hv] at HV
    clear hv h hb0
    go_enter Tryd.func15, Tryd.ntmps15
    go_wp2_with fail
    refine HV.out.mono ?_
    rintro e w1 ⟨rfl, hb1⟩
    obtain ⟨e1, e2, e3, e4, e5, e6, e7⟩ := HE.out w1 hb1
    clear hb1
    go_wp2_with fail
    exact bodyPost_ret (v := .tuple #[.int .i64 0, .int .i64 1]) (by simp [results, Tryd.f15, go_sem, e5, e6]) rfl ⟨rfl, e7⟩
  · rw [hv] at HV
    rw [hv, Bool.true_and] at h
    by_cases h0 : 0 ≤ m
    · have h1 : 1440 ≤ m := by
        rw [decide_eq_true h0, Bool.true_and, decide_eq_true_eq] at h
        omega
      have g0 : decide (m < 0) = false := decide_eq_false (by omega)
      have g1 : decide (1440 ≤ m) = true := decide_eq_true h1
      clear hv h hb0 h0 h1
      go_enter Tryd.func15, Tryd.ntmps15
      go_wp2_with fail
      refine HV.out.mono ?_
      rintro e w1 ⟨rfl, hb1⟩
      obtain ⟨e1, e2, e3, e4, e5, e6, e7⟩ := HE.out w1 hb1
      clear hb1
      go_wp2_with fail
      exact bodyPost_ret (v := .tuple #[.int .i64 0, .int .i64 1]) (by simp [results, Tryd.f15, go_sem, e5, e6]) rfl ⟨rfl, e7⟩
    · have g0 : decide (m < 0) = true := decide_eq_true (by omega)
      clear hv h hb0 h0
      go_enter Tryd.func15, Tryd.ntmps15
      go_wp2_with fail
      refine HV.out.mono ?_
      rintro e w1 ⟨rfl, hb1⟩
      obtain ⟨e1, e2, e3, e4, e5, e6, e7⟩ := HE.out w1 hb1
      clear hb1
      go_wp2_with fail
      exact bodyPost_ret (v := .tuple #[.int .i64 0, .int .i64 1]) (by simp [results, Tryd.f15, go_sem, e5, e6]) rfl ⟨rfl, e7⟩

end Go.Proofs.YtkkgefefbamcpaaDoor
