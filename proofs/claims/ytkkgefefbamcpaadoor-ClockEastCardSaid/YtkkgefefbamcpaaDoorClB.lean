/- The program's Valid, offsetAt, isInstant, Local, Instant, Begin (layer 6). -/
import Derived.Test.YtkkgefefbamcpaaDoorClA
set_option linter.unusedSimpArgs false
set_option linter.unusedVariables false
namespace Go.Proofs.YtkkgefefbamcpaaDoor
open Go.RowKit Go.Shelf
set_option maxRecDepth 100000
attribute [local go_sem] Oper.semAt_some

/-- A block of three numbers: a span. -/
def Bx3 (W : World) (B : Nat) (x : Cl.Sp) : Prop := W.heap[B]? = some (.cells #[.int .i64 x.1, .int .i64 x.2.1, .int .i64 x.2.2] 58 (0, 0))
theorem Bx3.new (W : World) (x : Cl.Sp) : Bx3 (W.alloc (.cells #[.int .i64 x.1, .int .i64 x.2.1, .int .i64 x.2.2] 58)) W.heap.size x := World.alloc_heap_new W _
theorem Bx3.cells {W : World} {B : Nat} {x : Cl.Sp} (h : Bx3 W B x) : W.cell? ⟨B, 0, none⟩ = some (.int .i64 x.1) ∧ W.cell? ⟨B, 1, none⟩ = some (.int .i64 x.2.1) ∧ W.cell? ⟨B, 2, none⟩ = some (.int .i64 x.2.2) := by
  unfold Bx3 at h
  simp [World.cell?, h]
theorem bx3_own (B : Nat) (x : Cl.Sp) : Own (fun (_ : Unit) W => Bx3 W B x) := fun s X Y row h hg hr => by
  refine (hg.block B (Array.getElem?_eq_some_iff.1 h).1 (fun e => ?_)).trans h
  obtain ⟨o, ho, hc⟩ := hr B e.symm
  rw [show X.heap[B]? = _ from h] at ho
  cases ho
  cases hc

theorem Cl.isInstant_any (t : Int) (w : World) : Calls Tryd.prog 26 #[.int .i64 t] w fun e w' => e = .returned (.bool (Cl.isI t)) ∧ w = w' := by
  unfold Cl.isI
  go_enter Tryd.func26, Tryd.ntmps26
  by_cases h0 : 0 ≤ t
  · by_cases h1 : t ≤ 144001439
    · go_wp2
      go_ret
      exact ⟨by simp [h0, h1], rfl⟩
    · go_wp2
      go_ret
      exact ⟨by simp [h0, h1], rfl⟩
  · go_wp2
    go_ret
    exact ⟨by rw [decide_eq_false (Int.not_le.2 (by assumption))]; rfl, rfl⟩

theorem Cl.new1 (w : World) (t t' : TypeId) (v v' : Value) : ((w.alloc (.cells #[v] t)).alloc (.cells #[v'] t')).cell? ⟨w.heap.size + 1, 0, none⟩ = some v' := by
  have := Boxed.new (w.alloc (.cells #[v] t)) t' v'
  rw [World.size_alloc] at this
  exact this.cell
theorem Cl.al2 (w : World) (o o' : Obj) : Below w.heap.size w ((w.alloc o).alloc o') := ((Below.refl _ w).alloc (Nat.le_refl _) _).alloc (by simp) _

/-- Valid at a slice without shifts, or with too many, or whose first one begins late. -/
theorem valid_long (A : Option Addr) (c : Nat) (zs : List Cl.Sh) (w : World) (h : zs.length = 0 ∨ 20 < zs.length) :
    Calls Tryd.prog 22 #[.agg #[.slice A zs.length c]] w fun e w' => e = .returned (.bool false) ∧ Below w.heap.size w w' := by
  go_enter Tryd.func22, Tryd.ntmps22
  generalize zs.length = n at *
  rcases h with rfl | h
  · go_wp2
    have hc := Cl.new1 w 24 4 (.slice A 0 c) (.bool false)
    exact bodyPost_ret (v := .bool false) (by simp [results, Tryd.f22, go_sem, hc]) rfl ⟨rfl, Cl.al2 _ _ _⟩
  · have h0 : ¬ n = 0 := by omega
    go_wp2
    have hc := Cl.new1 w 24 4 (.slice A n c) (.bool false)
    exact bodyPost_ret (v := .bool false) (by simp [results, Tryd.f22, go_sem, hc]) rfl ⟨rfl, Cl.al2 _ _ _⟩

theorem valid_late (ad : Addr) (c : Nat) (zs : List Cl.Sh) (w : World) (h0 : 0 < zs.length) (h1 : zs.length ≤ 20) (f : Int) (hz : w.cell? ad = some (.int .i64 f)) (hf : ¬ f = 0) :
    Calls Tryd.prog 22 #[.agg #[.slice (some ad) zs.length c]] w fun e w' => e = .returned (.bool false) ∧ Below w.heap.size w w' := by
  have hz1 := Cl.cell_bt (Cl.cell_bt hz (Cl.al w (.cells #[.slice (some ad) zs.length c] 24))) (Cl.al _ (.cells #[.bool false] 4))
  go_enter Tryd.func22, Tryd.ntmps22
  generalize zs.length = n at *
  have h0' : ((n : Int) == 0) = false := by simp; omega
  have h1' : decide ((20 : Int) < (n : Int)) = false := by simp; omega
  have hf' : (f != 0) = true := by simp [hf]
  clear hf h1
  go_wp2
  have hc := Cl.new1 w 24 4 (.slice (some ad) n c) (.bool false)
  exact bodyPost_ret (v := .bool false) (by simp [results, Tryd.f22, go_sem, hc]) rfl ⟨rfl, Cl.al2 _ _ _⟩

theorem ownFrom_pureC {β : Type} (B : Nat) (p : β → Prop) : OwnFrom B (fun (s : β) (_ : World) => p s) := fun _ _ _ _ h _ _ => h

def AllOk {p : Cl.Sp → Prop} (pre : List (SpP p)) : Prop := ∀ x ∈ pre, Cl.okS x.1 = true
def SomeBad {p : Cl.Sp → Prop} (pre : List (SpP p)) : Prop := ∃ x ∈ pre, Cl.okS x.1 = false
theorem AllOk.nil {p : Cl.Sp → Prop} : AllOk ([] : List (SpP p)) := fun _ h => by cases h
theorem AllOk.snoc {p : Cl.Sp → Prop} {pre : List (SpP p)} {x : SpP p} (h : AllOk pre) (hx : Cl.okS x.1 = true) : AllOk (pre ++ [x]) := fun z hz => (List.mem_append.1 hz).elim (h z) (fun e => by rw [List.mem_singleton.1 e]; exact hx)
theorem SomeBad.snoc {p : Cl.Sp → Prop} {pre : List (SpP p)} {x : SpP p} (hx : Cl.okS x.1 = false) : SomeBad (pre ++ [x]) := ⟨x, List.mem_append.2 (.inr (List.mem_singleton.2 rfl)), hx⟩

set_option maxHeartbeats 2000000 in
theorem valid_loop (ad : Addr) (c : Nat) (zs : List Cl.Sh) (w : World) (h0 : 0 < zs.length) (h1 : zs.length ≤ 20) (hz : Zn w w.heap.size (some ad) zs) (hz0 : w.cell? ad = some (.int .i64 0)) :
    Calls Tryd.prog 22 #[.agg #[.slice (some ad) zs.length c]] w fun e w' => e = .returned (.bool ((Cl.sp zs).all Cl.okS)) ∧ Below w.heap.size w w' := by
  have hz1 := Cl.cell_bt (Cl.cell_bt hz0 (Cl.al w (.cells #[.slice (some ad) zs.length c] 24))) (Cl.al _ (.cells #[.bool false] 4))
  have HD := Lib.hid (fun w' => callsIn_wide (n := 4) |>.2 (spans_made (some ad) zs.length c w'))
  have h0' : ((zs.length : Int) == 0) = false := by simp; intro e; rw [e] at h0; simp at h0
  have h1' : decide ((20 : Int) < (zs.length : Int)) = false := by simp; omega
  refine (callsIn_wide (n := 5)).1 ?_
  refine callsIn_of_wp_marks Tryd.func22 rfl trivial ?_ rfl
  simp only [Tryd.ntmps22, List.size_toArray, List.length_cons, List.length_nil, Nat.reduceAdd, Nat.reduceSub, Array.replicate_succ, Array.replicate_zero, List.push_toArray, List.append_toArray, List.nil_append, List.cons_append]
  gi_wp2_with (refine ⟨trivial, ?_⟩; gi_at_call 30; refine (HD.out _).mono ?_; rintro e w' ⟨rfl, rfl⟩)
  have bV := (Boxed.new (w.alloc (.cells #[.slice (some ad) zs.length c] 24)) 4 (.bool false)).alloc (.cells #[.slice (some ad) zs.length c] 24)
  have bZ := Boxed.new ((w.alloc (.cells #[.slice (some ad) zs.length c] 24)).alloc (.cells #[.bool false] 4)) 24 (.slice (some ad) zs.length c)
  simp only [World.size_alloc] at bV bZ
  have hB0 : Below w.heap.size w (((w.alloc (.cells #[.slice (some ad) zs.length c] 24)).alloc (.cells #[.bool false] 4)).alloc (.cells #[.slice (some ad) zs.length c] 24)) := (((Below.refl _ w).alloc (Nat.le_refl _) _).alloc (by simp) _).alloc (by simp; omega) _
  have hsz : (((w.alloc (.cells #[.slice (some ad) zs.length c] 24)).alloc (.cells #[.bool false] 4)).alloc (.cells #[.slice (some ad) zs.length c] 24)).heap.size = w.heap.size + 3 := by simp
  obtain ⟨W0, hW0⟩ : ∃ W0, (((w.alloc (.cells #[.slice (some ad) zs.length c] 24)).alloc (.cells #[.bool false] 4)).alloc (.cells #[.slice (some ad) zs.length c] 24)) = W0 := ⟨_, rfl⟩
  rw [hW0] at bV bZ hB0 hsz ⊢
  clear hW0
  refine wpIn_rangeFunc_ownH (α := SpP fun _ => True) rfl (by decide) (gf := 37) (lb := #[.pointer (some ⟨w.heap.size + 1 + 1, 0, none⟩)]) rfl trivial (enters_of Tryd.func37 (by kernel_rfl) rfl)
    (spans1_stops (fun _ => True) 4 (by decide) (w.heap.size + 1 + 1) w.heap.size (some ad) c zs (by omega) (fun _ _ => trivial) W0 (by omega) (by omega) bZ.cell (hz.below hB0 (Nat.le_refl _))) KpS.trans (kpS_b (by omega) (by omega)) (Below.refl _ _) (fun _ => rfl)
    (fun pre W => (Boxed W (w.heap.size + 1) 4 (.bool false) ∧ AllOk pre) ∧ (Below w.heap.size w W ∧ w.heap.size + 3 ≤ W.heap.size))
    (fun cd pre W => (Boxed W (w.heap.size + 1) 4 (.bool false) ∧ (cd = .ret ∧ SomeBad pre)) ∧ Below w.heap.size w W)
    (OwnFrom.and (OwnFrom.and (Own.from (boxed_own _ _ _) _) (ownFrom_pureC _ _)) (OwnFrom.and (ownFrom_below (Nat.le_refl _) (by omega)) (fun _ _ _ _ h hg _ => Nat.le_trans h hg.size)))
    (fun cd => OwnFrom.and (OwnFrom.and (Own.from (boxed_own _ _ _) _) (ownFrom_pureC _ _)) (ownFrom_below (Nat.le_refl _) (by omega)))
    ⟨⟨bV, AllOk.nil⟩, hB0, by omega⟩
    (fun x a' W => ∃ Bx, w.heap.size + 1 < Bx ∧ Bx3 W Bx x.1 ∧ a' = { tmps := #[.agg #[.slice (some ad) zs.length c], .pointer (some ⟨w.heap.size, 0, none⟩), .pointer (some ⟨w.heap.size + 1, 0, none⟩), .pointer (some ⟨Bx, 0, none⟩), .pointer (some ⟨w.heap.size, 0, none⟩), .slice (some ad) zs.length c, .int .i64 zs.length, .bool false, .bool false, .pointer (some ⟨w.heap.size, 0, none⟩), .slice (some ad) zs.length c, .int .i64 zs.length, .bool false, .bool false, .bool false, .pointer (some ⟨w.heap.size, 0, none⟩), .slice (some ad) zs.length c, .pointer (some ad), .pointer (some ad), .int .i64 0, .bool false, .bool false, .agg #[.slice (some ad) zs.length c], .func (.func 37) #[] #[.pointer (some ⟨w.heap.size + 1 + 1, 0, none⟩)], .agg #[.int .i64 x.1.1, .int .i64 x.1.2.1, .int .i64 x.1.2.2], undef, undef, undef, undef, undef, undef, undef, undef, undef, undef, undef, undef, undef, undef, undef, undef, undef, undef], defers := [] })
    (fun x a' _ X Y row hs hg hr => by obtain ⟨Bx, h1, h2, h3⟩ := hs; exact ⟨Bx, h1, bx3_own Bx x.1 () X Y row h2 hg (fun r e => (hr r e).2), h3⟩)
    ?assign ?body ?done ?stop
  case assign =>
    rintro l pre x W K ⟨⟨bV1, hok⟩, hB1, hB2⟩ hK
    gi_wp2
    exact hK _ _ ((KeepsOthers.alloc _ _).from _) ((KpS.refl _ _ W).alloc (by omega) (by omega) _) ⟨⟨bV1.alloc _, hok⟩, hB1.alloc hB1.size _, by rw [World.size_alloc]; omega⟩ ⟨W.heap.size, bV1.lt, Bx3.new W x.1, rfl⟩
  case body =>
    rintro l pre x a' W hl ⟨r, hr⟩ ⟨⟨bV1, hok⟩, hB1, hB2⟩ ⟨Bx, hBx, bX, rfl⟩ hlt
    obtain ⟨x0, x1, x2⟩ := bX.cells
    obtain ⟨y, hy⟩ : ∃ y : Cl.Sp, y = x.1 := ⟨_, rfl⟩
    rw [← hy] at x0 x1 x2
    have hV := bV1.cell
    have hF := bV1.frozen
    have hx1 : ∀ b, Cl.okS y = b → Cl.okS x.1 = b := fun b h => by rw [← hy]; exact h
    have HX := Lib.hid hx1
    have HY := Lib.hid hy
    clear hx1 hy
    by_cases k1 : y.1 < y.2.2
    · have g1 : decide (y.2.2 ≤ y.1) = false := decide_eq_false (by omega)
      by_cases k2 : -840 ≤ y.2.1
      · have g2 : decide (y.2.1 < -840) = false := decide_eq_false (by omega)
        by_cases k3 : y.2.1 ≤ 840
        · have g3 : decide (840 < y.2.1) = false := decide_eq_false (by omega)
          have HO := Lib.hid (HX.out true (by unfold Cl.okS; rw [decide_eq_true k1, decide_eq_true k2, decide_eq_true k3]; rfl))
          clear k1 k2 k3
          gi_wp2
          exact ⟨KeepsFrom.refl _ _, KpS.refl _ _ _, ⟨bV1, hok.snoc HO.out⟩, hB1, hB2⟩
        · have g3 : decide (840 < y.2.1) = true := decide_eq_true (by omega)
          have HO := Lib.hid (HX.out false (by unfold Cl.okS; rw [decide_eq_false k3]; simp))
          clear k1 k2 k3
          gi_wp2
          exact ⟨(KeepsOthers.setCell _ _ _).from _, ⟨bV1.set _, rfl, SomeBad.snoc HO.out⟩, hB1.setCell (p := ⟨w.heap.size + 1, 0, none⟩) (by simp) _⟩
      · have g2 : decide (y.2.1 < -840) = true := decide_eq_true (by omega)
        have HO := Lib.hid (HX.out false (by unfold Cl.okS; rw [decide_eq_false k2]; simp))
        clear k1 k2
        gi_wp2
        exact ⟨(KeepsOthers.setCell _ _ _).from _, ⟨bV1.set _, rfl, SomeBad.snoc HO.out⟩, hB1.setCell (p := ⟨w.heap.size + 1, 0, none⟩) (by simp) _⟩
    · have g1 : decide (y.2.2 ≤ y.1) = true := decide_eq_true (by omega)
      have HO := Lib.hid (HX.out false (by unfold Cl.okS; rw [decide_eq_false k1]; simp))
      clear k1
      gi_wp2
      exact ⟨(KeepsOthers.setCell _ _ _).from _, ⟨bV1.set _, rfl, SomeBad.snoc HO.out⟩, hB1.setCell (p := ⟨w.heap.size + 1, 0, none⟩) (by simp) _⟩
  case done =>
    rintro D ys W hD hys ⟨⟨bV1, hok⟩, hB1, hB2⟩ hK
    have hV := bV1.cell
    have hF := bV1.frozen
    gi_wp2
    have hK' := (KeepsOthers.setCell W ⟨w.heap.size + 1, 0, none⟩ (.bool true)).same D _ hK rfl
    refine ⟨by simp, .inl ⟨_, _, rfl, run_takeDeferred hK', ?_⟩⟩
    have hc5 := cell_kept (bV1.set (.bool true)).cell (grownBy_putObj' _ D (.deferred none)) (fun r e => by cases e; exact ⟨_, hK', rfl⟩)
    have hall : (Cl.sp zs).all Cl.okS = true := List.all_eq_true.2 fun z hz => by
      rw [← hys] at hz
      obtain ⟨x, hx, rfl⟩ := List.mem_map.1 hz
      exact hok x hx
    refine ⟨.bool true, ?_, by rw [hall], (hB1.setCell (p := ⟨w.heap.size + 1, 0, none⟩) (by simp) _).trans (belowK_b (w := w) (Nat.le_refl _) _ D _ _ (by omega) hK' rfl rfl)⟩
    simp [results, Tryd.f22, go_sem, hc5]
  case stop =>
    rintro D cd pre W hD hpre ⟨⟨bV1, rfl, hbad⟩, hB1⟩ hK
    have hV := bV1.cell
    gi_wp2
    refine ⟨by simp, .inl ⟨_, _, rfl, run_takeDeferred hK, ?_⟩⟩
    have hc5 := cell_kept bV1.cell (grownBy_putObj' _ D (.deferred none)) (fun r e => by cases e; exact ⟨_, hK, rfl⟩)
    have hall : (Cl.sp zs).all Cl.okS = false := by
      obtain ⟨x, hx, h⟩ := hbad
      have : x.1 ∈ Cl.sp zs := hpre.subset (List.mem_map.2 ⟨x, hx, rfl⟩)
      exact List.all_eq_false.2 ⟨x.1, this, by simp [h]⟩
    refine ⟨.bool false, ?_, by rw [hall], hB1.trans (belowK_b (w := w) (Nat.le_refl _) W D _ _ (by omega) hK rfl rfl)⟩
    simp [results, Tryd.f22, go_sem, hc5]

/-- Valid at every zone. -/
theorem valid_any (A : Option Addr) (c : Nat) (zs : List Cl.Sh) (w : World) (hz : Zn w w.heap.size A zs) :
    Calls Tryd.prog 22 #[.agg #[.slice A zs.length c]] w fun e w' => e = .returned (.bool (Cl.vz zs)) ∧ Below w.heap.size w w' := by
  unfold Cl.vz
  by_cases h0 : zs.length = 0
  · rw [decide_eq_false (show ¬ 1 ≤ zs.length by omega)]
    exact valid_long A c zs w (.inl h0)
  by_cases h1 : 20 < zs.length
  · rw [decide_eq_false (show ¬ zs.length ≤ 20 by omega), Bool.false_and, Bool.and_false]
    exact valid_long A c zs w (.inr h1)
  rw [decide_eq_true (show 1 ≤ zs.length by omega), decide_eq_true (show zs.length ≤ 20 by omega), Bool.true_and, Bool.true_and]
  obtain ⟨ad, rfl, _, hf, _⟩ := hz 0 (by omega)
  have hd : (zs.getD 0 (1, 0)).1 = (zs.getD 0 (0, 0)).1 := by
    cases zs with
    | nil => simp at h0
    | cons s r => rfl
  rw [show ad.add (0 * 2) = ad from rfl, ← hd] at hf
  by_cases h2 : (zs.getD 0 (1, 0)).1 = 0
  · rw [decide_eq_true h2, Bool.true_and]
    rw [h2] at hf
    exact valid_loop ad c zs w (by omega) (by omega) hz hf
  · rw [decide_eq_false h2, Bool.false_and]
    exact valid_late ad c zs w (by omega) (by omega) _ hf h2
end Go.Proofs.YtkkgefefbamcpaaDoor
