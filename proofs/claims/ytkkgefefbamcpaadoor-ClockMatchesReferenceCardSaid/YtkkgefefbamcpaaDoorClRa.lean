/- The reference's Valid, Is, Offset (layer 6). -/
import Derived.Test.YtkkgefefbamcpaaDoorClGoW
import Derived.Deep.QuietTactic
import Derived.BigQuiet
set_option linter.unusedSimpArgs false
set_option linter.unusedVariables false
namespace Go.Proofs.YtkkgefefbamcpaaDoor
open Go.RowKit
set_option maxRecDepth 100000

theorem Cl.drewN_below (w : World) (q : Nat) : Below w.heap.size w (w.drewN q) := ⟨rfl, rfl, rfl, Nat.le_refl _, fun _ _ => rfl⟩
theorem Cl.new2 (w : World) (t : TypeId) (x y : Value) : (w.alloc (.cells #[x, y] t)).cell? ⟨w.heap.size, 0, none⟩ = some x ∧ (w.alloc (.cells #[x, y] t)).cell? ⟨w.heap.size, 1, none⟩ = some y := by
  have h := World.alloc_heap_new w (.cells #[x, y] t)
  generalize w.alloc (.cells #[x, y] t) = W at h
  simp [World.cell?, h]
/-- What the reference asks of a shift. -/
def Cl.okR (zs : List Cl.Sh) (k : Nat) : Prop := (0 < k → (zs.getD (k - 1) (0, 0)).1 < (zs.getD k (0, 0)).1) ∧ (zs.getD k (0, 0)).1 ≤ 144001439 ∧ -840 ≤ (zs.getD k (0, 0)).2 ∧ (zs.getD k (0, 0)).2 ≤ 840
theorem Cl.sp_at {zs : List Cl.Sh} {k : Nat} (hk : k < zs.length) : (Cl.sp zs)[k]? = some ((zs.getD k (0, 0)).1, (zs.getD k (0, 0)).2, if k + 1 < zs.length then (zs.getD (k + 1) (0, 0)).1 else 144001440) := by
  rw [Cl.sp_get zs k hk, Cl.getD_eq hk]
  by_cases h : k + 1 < zs.length
  · rw [dif_pos h, if_pos h, Cl.getD_eq h]
  · rw [dif_neg h, if_neg h]
    rfl
theorem Cl.all_okR {zs : List Cl.Sh} (h1 : 1 ≤ zs.length) (h0 : (zs.getD 0 (1, 0)).1 = 0) : (Cl.sp zs).all Cl.okS = true ↔ ∀ k, k < zs.length → Cl.okR zs k := by
  have hl := Cl.sp_length zs
  constructor
  · intro h k hk
    have hall := fun j (hj : j < zs.length) => List.all_eq_true.1 h _ (List.mem_of_getElem? (Cl.sp_at hj))
    have hk1 := hall k hk
    unfold Cl.okS at hk1
    simp only [Bool.and_eq_true, decide_eq_true_eq] at hk1
    have hch : Cl.Ch (zs.getD 0 (0, 0)).1 (Cl.sp zs) := by
      cases zs with
      | nil => simp at h1
      | cons s r => exact Cl.ch_sp r s (List.all_eq_true.2 fun x hx => by
          have := List.all_eq_true.1 h x hx
          unfold Cl.okS at this
          simp only [Bool.and_eq_true] at this
          exact this.1)
    have hb := Cl.ch_bounds _ _ hch _ (List.mem_of_getElem? (Cl.sp_at hk))
    unfold Cl.M1 at hb
    dsimp only at hb
    refine ⟨fun hpos => ?_, by omega, hk1.2.1, hk1.2.2⟩
    have hp := hall (k - 1) (by omega)
    unfold Cl.okS at hp
    simp only [Bool.and_eq_true, decide_eq_true_eq] at hp
    rw [show k - 1 + 1 = k by omega, if_pos hk] at hp
    exact hp.1
  · intro h
    refine List.all_eq_true.2 fun x hx => ?_
    obtain ⟨k, hk, rfl⟩ := List.getElem_of_mem hx
    have e := Cl.sp_at (zs := zs) (k := k) (by omega)
    rw [List.getElem?_eq_getElem hk] at e
    rw [Option.some.inj e]
    obtain ⟨_, a2, a3, a4⟩ := h k (by omega)
    unfold Cl.okS
    simp only [Bool.and_eq_true, decide_eq_true_eq]
    refine ⟨?_, a3, a4⟩
    split
    · rename_i hk2
      have := (h (k + 1) hk2).1 (by omega)
      rwa [show k + 1 - 1 = k by omega] at this
    · omega

theorem Cl.ris_any (t : Int) (w : World) : Calls Tryd.prog 28 #[.int .i64 t] w fun e w' => e = .returned (.bool (Cl.isI t)) ∧ w = w' := by
  unfold Cl.isI
  go_enter Tryd.func28, Tryd.ntmps28
  by_cases h0 : 0 ≤ t
  · by_cases h1 : t ≤ 144001439
    · go_wp2
      go_ret
      exact ⟨by simp [h0, h1], rfl⟩
    · go_wp2
      go_ret
      exact ⟨by simp [h0, h1], rfl⟩
  · go_wp2
    go_ret
    exact ⟨by rw [decide_eq_false (Int.not_le.2 (by assumption))]; rfl, rfl⟩

theorem rvalid_long (A : Option Addr) (c : Nat) (zs : List Cl.Sh) (w : World) (h : zs.length = 0 ∨ 20 < zs.length) :
    Calls Tryd.prog 23 #[.agg #[.slice A zs.length c]] w fun e w' => e = .returned (.bool false) ∧ Below w.heap.size w w' := by
  go_enter Tryd.func23, Tryd.ntmps23
  generalize zs.length = n at *
  rcases h with rfl | h
  · go_wp2
    go_ret
    exact ⟨rfl, Cl.al _ _⟩
  · have h0 : decide ((n : Int) < 1) = false := decide_eq_false (by omega)
    go_wp2
    go_ret
    exact ⟨rfl, Cl.al _ _⟩

theorem rvalid_late (ad : Addr) (c : Nat) (zs : List Cl.Sh) (w : World) (h0 : 0 < zs.length) (h1 : zs.length ≤ 20) (f : Int) (hz : w.cell? ad = some (.int .i64 f)) (hf : ¬ f = 0) :
    Calls Tryd.prog 23 #[.agg #[.slice (some ad) zs.length c]] w fun e w' => e = .returned (.bool false) ∧ Below w.heap.size w w' := by
  have hz1 := Cl.cell_bt hz (Cl.al w (.cells #[.slice (some ad) zs.length c] 24))
  go_enter Tryd.func23, Tryd.ntmps23
  generalize zs.length = n at *
  have h0' : decide ((n : Int) < 1) = false := decide_eq_false (by omega)
  have h1' : decide ((20 : Int) < (n : Int)) = false := decide_eq_false (by omega)
  have hf' : (f != 0) = true := by simp [hf]
  clear hf h1
  go_wp2
  go_ret
  exact ⟨rfl, Cl.al _ _⟩

set_option maxHeartbeats 4000000 in
theorem rvalid_loop (ad : Addr) (c : Nat) (zs : List Cl.Sh) (w : World) (h0 : 0 < zs.length) (h1 : zs.length ≤ 20) (hz : Zn w w.heap.size (some ad) zs) (hz0 : w.cell? ad = some (.int .i64 0)) (b : Bool) (hb1 : (∀ k, k < zs.length → Cl.okR zs k) → b = true) (hb2 : ∀ k, k < zs.length → ¬ Cl.okR zs k → b = false) :
    Calls Tryd.prog 23 #[.agg #[.slice (some ad) zs.length c]] w fun e w' => e = .returned (.bool b) ∧ Below w.heap.size w w' := by
  have hb := Cl.al w (.cells #[.slice (some ad) zs.length c] 24)
  have hc := (Boxed.new w 24 (.slice (some ad) zs.length c)).cell
  have hz1 := Cl.cell_bt hz0 hb
  have h0' : decide ((zs.length : Int) < 1) = false := decide_eq_false (by omega)
  have h1' : decide ((20 : Int) < (zs.length : Int)) = false := decide_eq_false (by omega)
  have HZ := Lib.hid (fun v (h : Below w.heap.size w v) => hz.bt h)
  have H1 := Lib.hid hb1
  have H2 := Lib.hid hb2
  clear hb1 hb2 hz
  go_enter Tryd.func23, Tryd.ntmps23
  go_wp2
  clear h0' h1' hz1 hz0
  go_loopw [3, 4] (fun i _ wr => ∃ k : Nat, k ≤ zs.length ∧ i = .int .i64 (k : Int) ∧ Hid (∀ j, j < k → Cl.okR zs j) ∧ wr.cell? ⟨w.heap.size, 0, none⟩ = some (.slice (some ad) zs.length c) ∧ Below w.heap.size w wr) (fun i _ _ => zs.length - (intOf i).toNat)
  case atStart => exact ⟨0, by omega, rfl, Lib.hid (fun j hj => absurd hj (Nat.not_lt_zero _)), hc, hb⟩
  case round =>
    obtain ⟨k, hk, rfl, HK, hc, hb⟩ := hrel
    by_cases hlt : k < zs.length
    · obtain ⟨ad', e', y1, y2, _, _⟩ := (HZ.out wr hb).at hlt
      cases e'
      obtain ⟨f, hf⟩ : ∃ f, f = (zs.getD k (0, 0)).1 := ⟨_, rfl⟩
      obtain ⟨q, hq⟩ : ∃ q, q = (zs.getD k (0, 0)).2 := ⟨_, rfl⟩
      rw [← hf] at y1
      rw [← hq] at y2
      have HN := Lib.hid (fun h => H2.out k hlt h)
      have HS := Lib.hid (fun (h : Cl.okR zs k) j (hj : j < k + 1) => (by
        rcases Nat.lt_or_ge j k with h2 | h2
        · exact HK.out j h2
        · obtain rfl : j = k := by omega
          exact h : Cl.okR zs j))
      have hcx := Cl.cell_bt hc (Cl.al wr (.cells #[.int .i64 f, .int .i64 q] 40))
      have hbx := Cl.Nb hb (Cl.al wr (.cells #[.int .i64 f, .int .i64 q] 40))
      obtain ⟨s0, s1⟩ := Cl.new2 wr 40 (.int .i64 f) (.int .i64 q)
      rcases k with _ | j
      · have HE := Lib.hid (And.intro hf hq)
        have z1 : wr.cell? ad = some (.int .i64 f) := y1
        have z2 : wr.cell? { block := ad.block, off := ad.off + 1 } = some (.int .i64 q) := y2
        clear hf hq y1 y2
        rw [show ((0 : Nat) : Int) = 0 from rfl]
        by_cases k2 : f ≤ 144001439
        · have g2 : decide (144001439 < f) = false := decide_eq_false (by omega)
          by_cases k3 : -840 ≤ q
          · have g3 : decide (q < -840) = false := decide_eq_false (by omega)
            by_cases k4 : q ≤ 840
            · have g4 : decide (840 < q) = false := decide_eq_false (by omega)
              have HOK := Lib.hid (show Cl.okR zs 0 from ⟨fun h => absurd h (Nat.lt_irrefl 0), by have := HE.out.1; omega, by have := HE.out.2; omega, by have := HE.out.2; omega⟩)
              clear k2 k3 k4
              go_wp2_with fail
              go_quiet (fail)
              go_wp2_with fail
              go_roundw
              case rel => exact ⟨0 + 1, by omega, by go_num, HS.out HOK.out, hcx, Cl.Nb hbx (Cl.drewN_below _ _)⟩
              case measure => simp [intOf]; omega
            · have g4 : decide (840 < q) = true := decide_eq_true (by omega)
              have HB : Hid (b = false) := Lib.hid (HN.out (fun h => by have h2 := h.2.2.2; have := HE.out.2; omega))
              clear k2 k3 k4
              go_wp2_with fail
              go_quiet (fail)
              go_wp2_with fail
              go_ret
              exact ⟨by rw [HB.out]; rfl, Cl.Nb hbx (Cl.drewN_below _ _)⟩
          · have g3 : decide (q < -840) = true := decide_eq_true (by omega)
            have HB : Hid (b = false) := Lib.hid (HN.out (fun h => by have h2 := h.2.2.1; have := HE.out.2; omega))
            clear k2 k3
            go_wp2_with fail
            go_quiet (fail)
            go_wp2_with fail
            go_ret
            exact ⟨by rw [HB.out]; rfl, Cl.Nb hbx (Cl.drewN_below _ _)⟩
        · have g2 : decide (144001439 < f) = true := decide_eq_true (by omega)
          have HB : Hid (b = false) := Lib.hid (HN.out (fun h => by have h2 := h.2.1; have := HE.out.1; omega))
          clear k2
          go_wp2_with fail
          go_quiet (fail)
          go_wp2_with fail
          go_ret
          exact ⟨by rw [HB.out]; rfl, Cl.Nb hbx (Cl.drewN_below _ _)⟩
      · obtain ⟨ad', e', x1, x2, _, _⟩ := (HZ.out wr hb).at (k := j) (by omega)
        cases e'
        obtain ⟨p, hp⟩ : ∃ p, p = (zs.getD j (0, 0)).1 := ⟨_, rfl⟩
        rw [← hp] at x1
        have HE := Lib.hid (And.intro hp (And.intro hf hq))
        have x1' := Cl.cell_bt x1 (Cl.al wr (.cells #[.int .i64 f, .int .i64 q] 40))
        clear hp hf hq
        rw [show ((j + 1 : Nat) : Int) = (j : Int) + 1 by omega]
        by_cases k1 : f ≤ p
        · have g1 : decide (f ≤ p) = true := decide_eq_true k1
          have HB : Hid (b = false) := Lib.hid (HN.out (fun h => by have h2 := h.1 (by omega); rw [show j + 1 - 1 = j by omega] at h2; have e1 := HE.out.1; have e2 := HE.out.2.1; omega))
          clear k1
          go_wp2_with fail
          go_quiet (fail)
          go_wp2_with fail
          go_ret
          exact ⟨by rw [HB.out]; rfl, Cl.Nb hbx (Cl.drewN_below _ _)⟩
        · have g1 : decide (f ≤ p) = false := decide_eq_false k1
          by_cases k2 : f ≤ 144001439
          · have g2 : decide (144001439 < f) = false := decide_eq_false (by omega)
            by_cases k3 : -840 ≤ q
            · have g3 : decide (q < -840) = false := decide_eq_false (by omega)
              by_cases k4 : q ≤ 840
              · have g4 : decide (840 < q) = false := decide_eq_false (by omega)
                have HOK := Lib.hid (show Cl.okR zs (j + 1) from ⟨fun _ => by rw [show j + 1 - 1 = j by omega]; have e1 := HE.out.1; have e2 := HE.out.2.1; omega, by have := HE.out.2.1; omega, by have := HE.out.2.2; omega, by have := HE.out.2.2; omega⟩)
                clear k2 k3 k4
                go_wp2_with fail
                go_quiet (fail)
                go_wp2_with fail
                go_roundw
                case rel => exact ⟨j + 1 + 1, by omega, by go_num, HS.out HOK.out, hcx, Cl.Nb hbx (Cl.drewN_below _ _)⟩
                case measure => simp [intOf]; omega
              · have g4 : decide (840 < q) = true := decide_eq_true (by omega)
                have HB : Hid (b = false) := Lib.hid (HN.out (fun h => by have h2 := h.2.2.2; have := HE.out.2.2; omega))
                clear k2 k3 k4
                go_wp2_with fail
                go_quiet (fail)
                go_wp2_with fail
                go_ret
                exact ⟨by rw [HB.out]; rfl, Cl.Nb hbx (Cl.drewN_below _ _)⟩
            · have g3 : decide (q < -840) = true := decide_eq_true (by omega)
              have HB : Hid (b = false) := Lib.hid (HN.out (fun h => by have h2 := h.2.2.1; have := HE.out.2.2; omega))
              clear k2 k3
              go_wp2_with fail
              go_quiet (fail)
              go_wp2_with fail
              go_ret
              exact ⟨by rw [HB.out]; rfl, Cl.Nb hbx (Cl.drewN_below _ _)⟩
          · have g2 : decide (144001439 < f) = true := decide_eq_true (by omega)
            have HB : Hid (b = false) := Lib.hid (HN.out (fun h => by have h2 := h.2.1; have := HE.out.2.1; omega))
            clear k2
            go_wp2_with fail
            go_quiet (fail)
            go_wp2_with fail
            go_ret
            exact ⟨by rw [HB.out]; rfl, Cl.Nb hbx (Cl.drewN_below _ _)⟩
    · obtain rfl : k = zs.length := by omega
      have HB : Hid (b = true) := Lib.hid (H1.out HK.out)
      go_wp2_with fail
      go_ret
      exact ⟨by rw [HB.out]; rfl, hb⟩

theorem rvalid_any (A : Option Addr) (c : Nat) (zs : List Cl.Sh) (w : World) (hz : Zn w w.heap.size A zs) :
    Calls Tryd.prog 23 #[.agg #[.slice A zs.length c]] w fun e w' => e = .returned (.bool (Cl.vz zs)) ∧ Below w.heap.size w w' := by
  unfold Cl.vz
  by_cases h0 : zs.length = 0
  · rw [decide_eq_false (show ¬ 1 ≤ zs.length by omega)]
    exact rvalid_long A c zs w (.inl h0)
  by_cases h1 : 20 < zs.length
  · rw [decide_eq_false (show ¬ zs.length ≤ 20 by omega), Bool.false_and, Bool.and_false]
    exact rvalid_long A c zs w (.inr h1)
  rw [decide_eq_true (show 1 ≤ zs.length by omega), decide_eq_true (show zs.length ≤ 20 by omega), Bool.true_and, Bool.true_and]
  obtain ⟨ad, rfl, _, hf, _⟩ := hz 0 (by omega)
  have hd : (zs.getD 0 (1, 0)).1 = (zs.getD 0 (0, 0)).1 := by
    cases zs with
    | nil => simp at h0
    | cons s r => rfl
  rw [show ad.add (0 * 2) = ad from rfl, ← hd] at hf
  by_cases h2 : (zs.getD 0 (1, 0)).1 = 0
  · rw [decide_eq_true h2, Bool.true_and]
    rw [h2] at hf
    have hiff := Cl.all_okR (zs := zs) (by omega) h2
    refine rvalid_loop ad c zs w (by omega) (by omega) hz hf _ hiff.2 (fun k hk hn => ?_)
    cases h : (Cl.sp zs).all Cl.okS
    · rfl
    · exact absurd (hiff.1 h k hk) hn
  · rw [decide_eq_false h2, Bool.false_and]
    exact rvalid_late ad c zs w (by omega) (by omega) _ hf h2

theorem Cl.off_fold : ∀ (zs : List Cl.Sh) (o t : Int), Cl.offW o (Cl.sp zs) t = zs.foldl (fun o s => if s.1 ≤ t then s.2 else o) o
  | [], _, _ => rfl
  | [s], _, _ => rfl
  | s :: x :: r, o, t => by
    show Cl.offW (if s.1 ≤ t then s.2 else o) (Cl.sp (x :: r)) t = _
    rw [Cl.off_fold (x :: r)]
    rfl
def Cl.offK (zs : List Cl.Sh) (k : Nat) (t : Int) : Int := (zs.take k).foldl (fun o s => if s.1 ≤ t then s.2 else o) 0
theorem Cl.offK_succ {zs : List Cl.Sh} {k : Nat} (hk : k < zs.length) (t : Int) : Cl.offK zs (k + 1) t = if (zs.getD k (0, 0)).1 ≤ t then (zs.getD k (0, 0)).2 else Cl.offK zs k t := by
  unfold Cl.offK
  have e : zs.take (k + 1) = zs.take k ++ [zs[k]] := by rw [List.take_add_one, List.getElem?_eq_getElem hk]; rfl
  rw [e, List.foldl_append, Cl.getD_eq hk]
  rfl
set_option maxHeartbeats 1000000 in
theorem roffset_any (A : Option Addr) (c : Nat) (zs : List Cl.Sh) (t : Int) (w : World) (h1 : zs.length ≤ 20) (hz : Zn w w.heap.size A zs) :
    Calls Tryd.prog 29 #[.agg #[.slice A zs.length c], .int .i64 t] w fun e w' => e = .returned (.int .i64 (Cl.offW 0 (Cl.sp zs) t)) ∧ Below w.heap.size w w' := by
  have hb0 := Cl.al w (.cells #[.slice A zs.length c] 24)
  have hc0 := (Boxed.new w 24 (.slice A zs.length c)).cell
  have HZ := Lib.hid (fun v (h : Below w.heap.size w v) => hz.bt h)
  have HE : Hid (Cl.offK zs zs.length t = Cl.offW 0 (Cl.sp zs) t) := Lib.hid (by rw [Cl.off_fold]; unfold Cl.offK; rw [List.take_length])
  generalize Cl.offW 0 (Cl.sp zs) t = res at *
  clear hz
  go_enter Tryd.func29, Tryd.ntmps29
  go_wp2
  go_loopw [5, 6] (fun v i wr => ∃ (k : Nat) (o : Int), k ≤ zs.length ∧ i = .int .i64 (k : Int) ∧ v = .int .i64 o ∧ Hid (Cl.offK zs k t = o) ∧ wr.cell? ⟨w.heap.size, 0, none⟩ = some (.slice A zs.length c) ∧ Below w.heap.size w wr) (fun _ i _ => zs.length - (intOf i).toNat)
  case atStart => exact ⟨0, 0, by omega, rfl, rfl, Lib.hid rfl, hc0, hb0⟩
  case round =>
    obtain ⟨k, o, hk, rfl, rfl, HO, hc, hb⟩ := hrel
    by_cases hlt : k < zs.length
    · obtain ⟨ad', e', y1, y2, _, _⟩ := (HZ.out wr hb).at hlt
      cases e'
      have hs := Cl.offK_succ hlt t
      obtain ⟨f, hf⟩ : ∃ f, f = (zs.getD k (0, 0)).1 := ⟨_, rfl⟩
      obtain ⟨q, hq⟩ : ∃ q, q = (zs.getD k (0, 0)).2 := ⟨_, rfl⟩
      rw [← hf, HO.out] at hs
      rw [← hq] at hs y2
      rw [← hf] at y1
      have HS := Lib.hid hs
      clear hf hq hs
      by_cases hft : f ≤ t
      · have HN := Lib.hid (show Cl.offK zs (k + 1) t = q by rw [HS.out, if_pos hft])
        go_wp2_with fail
        go_roundw
        case rel => exact ⟨k + 1, q, by omega, by go_num, rfl, HN, hc, hb⟩
        case measure => simp [intOf]; omega
      · have HN := Lib.hid (show Cl.offK zs (k + 1) t = o by rw [HS.out, if_neg hft])
        go_wp2_with fail
        go_roundw
        case rel => exact ⟨k + 1, o, by omega, by go_num, rfl, HN, hc, hb⟩
        case measure => simp [intOf]; omega
    · obtain rfl : k = zs.length := by omega
      have HR := Lib.hid (HO.out.symm.trans HE.out)
      go_wp2_with fail
      go_ret
      exact ⟨by rw [← HR.out]; rfl, hb⟩
end Go.Proofs.YtkkgefefbamcpaaDoor
