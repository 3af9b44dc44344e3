/- The program's Instant: the loop over the spans (layer 6). -/
import Derived.Test.YtkkgefefbamcpaaDoorClD
set_option linter.unusedSimpArgs false
set_option linter.unusedVariables false
namespace Go.Proofs.YtkkgefefbamcpaaDoor
open Go.RowKit Go.Shelf
set_option maxRecDepth 100000
attribute [local go_sem] Oper.semAt_some

abbrev POff (x : Cl.Sp) : Prop := -840 ≤ x.2.1 ∧ x.2.1 ≤ 840
def NoIn (pre : List (SpP POff)) (q : Int) : Prop := ∀ x ∈ pre, ¬ max x.1.1 (q - x.1.2.1) < x.1.2.2
theorem NoIn.nil {q : Int} : NoIn [] q := fun _ h => by cases h
theorem NoIn.snoc {q : Int} {pre : List (SpP POff)} {x : SpP POff} (h : NoIn pre q) (hx : ¬ max x.1.1 (q - x.1.2.1) < x.1.2.2) : NoIn (pre ++ [x]) q := fun z hz => (List.mem_append.1 hz).elim (h z) (fun e => by rw [List.mem_singleton.1 e]; exact hx)
def Found (pre : List (SpP POff)) (q t : Int) : Prop := ∃ (p0 : List (SpP POff)) (x : SpP POff), pre = p0 ++ [x] ∧ NoIn p0 q ∧ max x.1.1 (q - x.1.2.1) < x.1.2.2 ∧ t = max x.1.1 (q - x.1.2.1)
theorem inst_app : ∀ (l : List (SpP POff)) (r : List Cl.Sp) (q : Int), NoIn l q → Cl.inst (l.map Subtype.val ++ r) q = Cl.inst r q
  | [], _, _, _ => rfl
  | x :: l, r, q, h => by
    show (if max x.1.1 (q - x.1.2.1) < x.1.2.2 then some _ else Cl.inst (l.map Subtype.val ++ r) q) = _
    rw [if_neg (h x (List.mem_cons_self ..))]
    exact inst_app l r q (fun y hy => h y (List.mem_cons_of_mem _ hy))
theorem NoIn.done {zs : List Cl.Sh} {ys : List (SpP POff)} {q : Int} (h : NoIn ys q) (he : ys.map Subtype.val = Cl.sp zs) : Cl.inst (Cl.sp zs) q = none := by
  have := inst_app ys [] q h
  rw [List.append_nil, he] at this
  rw [this]
  rfl
theorem Found.stop {zs : List Cl.Sh} {ys : List (SpP POff)} {q t : Int} (h : Found ys q t) (he : ys.map Subtype.val <+: Cl.sp zs) : Cl.inst (Cl.sp zs) q = some t := by
  obtain ⟨p0, x, rfl, h1, h2, rfl⟩ := h
  obtain ⟨r, hr⟩ := he
  rw [← hr, List.map_append, List.append_assoc, inst_app p0 _ q h1]
  show (if max x.1.1 (q - x.1.2.1) < x.1.2.2 then some _ else _) = _
  rw [if_pos h2]

set_option maxHeartbeats 2000000 in
theorem instant_low (A : Option Addr) (c : Nat) (zs : List Cl.Sh) (d m : Int) (w : World) (hz : Zn w w.heap.size A zs) (hv : Cl.vz zs = true) (hm0 : 0 ≤ m) (hm1 : m < 1440) (hd : d < -2) (e : Int × Int) (he : ∀ r, Cl.inst (Cl.sp zs) (-2880 + m) = r → e = Cl.ofI r) :
    Calls Tryd.prog 15 #[.agg #[.slice A zs.length c], .int .i64 (d), .int .i64 m] w fun en w' => en = .returned (.tuple #[.int .i64 e.1, .int .i64 e.2]) ∧ Below w.heap.size w w' := by
  have hb0 := Cl.al3 w (.cells #[.slice A zs.length c] 24) (.cells #[.int .i64 0] 3) (.cells #[.int .i64 0] 27)
  have HV := Lib.hid (callsIn_wide (n := 4) |>.2 (valid_any A c zs _ (hz.bt hb0)))
  have HD := Lib.hid (fun w' => callsIn_wide (n := 4) |>.2 (spans_made A zs.length c w'))
  rw [hv] at HV
  have g := Cl.good_of zs hv
  have hfew := g.few
  have HOFF := Lib.hid g.off
  have HR := Lib.hid he
  have HZ := Lib.hid hz
  have bz := ((Boxed.new w 24 (.slice A zs.length c)).alloc (.cells #[.int .i64 0] 3)).alloc (.cells #[.int .i64 0] 27)
  have b1 := (Boxed.new (w.alloc (.cells #[.slice A zs.length c] 24)) 3 (.int .i64 0)).alloc (.cells #[.int .i64 0] 27)
  have b2 := Boxed.new ((w.alloc (.cells #[.slice A zs.length c] 24)).alloc (.cells #[.int .i64 0] 3)) 27 (.int .i64 0)
  simp only [World.size_alloc] at b1 b2
  have hsz0 : (((w.alloc (.cells #[.slice A zs.length c] 24)).alloc (.cells #[.int .i64 0] 3)).alloc (.cells #[.int .i64 0] 27)).heap.size = w.heap.size + 3 := by simp
  have HB := Lib.hid (And.intro bz (And.intro b1 b2))
  have g0 : decide (m < 0) = false := decide_eq_false (by omega)
  have g1 : decide (1440 ≤ m) = false := decide_eq_false (by omega)
  clear bz b1 b2 he hv g hz
  refine (callsIn_wide (n := 5)).1 ?_
  refine callsIn_of_wp_marks Tryd.func15 rfl trivial ?_ rfl
  simp only [Tryd.ntmps15, List.size_toArray, List.length_cons, List.length_nil, Nat.reduceAdd, Nat.reduceSub, Array.replicate_succ, Array.replicate_zero, List.push_toArray, List.append_toArray, List.nil_append, List.cons_append]
  gi_wp2_with (first
    | (refine ⟨trivial, ?_⟩; gi_at_call 22; refine HV.out.mono ?_; clear HV; rintro e w1 ⟨rfl, hb1⟩; obtain ⟨bz1, b11, b21⟩ := HB.out; have bz2 := (Cl.boxed_bt bz1 hb1).cell; have bz3 := Cl.cell_bt bz2 (Cl.al w1 (.cells #[.int .i64 (-2880 + m)] 3)))
    | (refine ⟨trivial, ?_⟩; gi_at_call 30; refine (HD.out _).mono ?_; rintro e w' ⟨rfl, rfl⟩))
  have c1 := ((Cl.boxed_bt b11 hb1).alloc (.cells #[.int .i64 (-2880 + m)] 3)).alloc (.cells #[.slice A zs.length c] 24)
  have c2 := ((Cl.boxed_bt b21 hb1).alloc (.cells #[.int .i64 (-2880 + m)] 3)).alloc (.cells #[.slice A zs.length c] 24)
  have cq := (Boxed.new w1 3 (.int .i64 (-2880 + m))).alloc (.cells #[.slice A zs.length c] 24)
  have cz := Boxed.new (w1.alloc (.cells #[.int .i64 (-2880 + m)] 3)) 24 (.slice A zs.length c)
  simp only [World.size_alloc] at cz
  have hw1 := hb1.size
  rw [hsz0] at hw1
  have hB0 : Below w.heap.size w ((w1.alloc (.cells #[.int .i64 (-2880 + m)] 3)).alloc (.cells #[.slice A zs.length c] 24)) := ((Cl.Nb hb0 hb1).alloc (by omega) _).alloc (by simp; omega) _
  have hsz : ((w1.alloc (.cells #[.int .i64 (-2880 + m)] 3)).alloc (.cells #[.slice A zs.length c] 24)).heap.size = w1.heap.size + 2 := by simp
  obtain ⟨W0, hW0⟩ : ∃ W0, ((w1.alloc (.cells #[.int .i64 (-2880 + m)] 3)).alloc (.cells #[.slice A zs.length c] 24)) = W0 := ⟨_, rfl⟩
  rw [hW0] at c1 c2 cq cz hB0 hsz ⊢
  clear hW0 hb1 hb0 bz1 b11 b21 bz2 bz3 HB hsz0
  refine wpIn_rangeFunc_ownH (α := SpP POff) rfl (by decide) (gf := 37) (lb := #[.pointer (some ⟨w1.heap.size + 1, 0, none⟩)]) rfl trivial (enters_of Tryd.func37 (by kernel_rfl) rfl)
    (spans1_stops POff 4 (by decide) (w1.heap.size + 1) w.heap.size A c zs (by omega) HOFF.out W0 (by omega) (by omega) cz.cell (HZ.out.below hB0 (Nat.le_refl _))) KpS.trans (kpS_b (by omega) (by omega)) (Below.refl _ _) (fun _ => rfl)
    (fun pre W => ((Boxed W (w.heap.size + 1) 3 (.int .i64 0) ∧ Boxed W (w.heap.size + 1 + 1) 27 (.int .i64 0)) ∧ (Boxed W w1.heap.size 3 (.int .i64 (-2880 + m)) ∧ NoIn pre (-2880 + m))) ∧ (Below w.heap.size w W ∧ w1.heap.size + 2 ≤ W.heap.size))
    (fun cd pre W => (∃ t, (Boxed W (w.heap.size + 1) 3 (.int .i64 t) ∧ Boxed W (w.heap.size + 1 + 1) 27 (.int .i64 0)) ∧ (cd = .ret ∧ Found pre (-2880 + m) t)) ∧ Below w.heap.size w W)
    (OwnFrom.and (OwnFrom.and (OwnFrom.and (Own.from (boxed_own _ _ _) _) (Own.from (boxed_own _ _ _) _)) (OwnFrom.and (Own.from (boxed_own _ _ _) _) (ownFrom_pureC _ _))) (OwnFrom.and (ownFrom_below (Nat.le_refl _) (by omega)) (fun _ _ _ _ h hg _ => Nat.le_trans h hg.size)))
    (fun cd => OwnFrom.and (fun s X Y row hs hg hr => by
      obtain ⟨t, ⟨h1, h2⟩, h3⟩ := hs
      exact ⟨t, ⟨(Own.from (boxed_own (β := Unit) _ _ (fun _ => .int .i64 t)) _) () X Y row h1 hg hr, (Own.from (boxed_own (β := Unit) _ _ (fun _ => .int .i64 0)) _) () X Y row h2 hg hr⟩, h3⟩) (ownFrom_below (Nat.le_refl _) (by omega)))
    ⟨⟨⟨c1, c2⟩, cq, NoIn.nil⟩, hB0, by omega⟩
    (fun x a' W => ∃ Bx, w1.heap.size + 2 ≤ Bx ∧ Bx3 W Bx x.1 ∧ a' = { tmps := #[.agg #[.slice A zs.length c], .int .i64 (-2), .int .i64 (m), .pointer (some ⟨w.heap.size, 0, none⟩), undef, undef, .pointer (some ⟨w.heap.size + 1, 0, none⟩), .pointer (some ⟨w.heap.size + 1 + 1, 0, none⟩), .pointer (some ⟨w1.heap.size, 0, none⟩), .pointer (some ⟨Bx, 0, none⟩), undef, .agg #[.slice A zs.length c], .bool true, .bool false, .bool false, .int .i64 (m), .bool false, .bool false, .bool false, .int .i64 (m), .bool false, .bool false, .int .i64 (d), .int .i64 (d), .int .i64 (-2), .int .i64 (-2), .int .i64 (-2880), .int .i64 (m), .int .i64 (-2880 + m), .agg #[.slice A zs.length c], .func (.func 37) #[] #[.pointer (some ⟨w1.heap.size + 1, 0, none⟩)], .agg #[.int .i64 x.1.1, .int .i64 x.1.2.1, .int .i64 x.1.2.2], undef, undef, undef, undef, undef, undef, undef, undef, undef, undef, undef, undef, undef, undef], defers := [] })
    (fun x a' _ X Y row hs hg hr => by obtain ⟨Bx, h1, h2, h3⟩ := hs; exact ⟨Bx, h1, bx3_own Bx x.1 () X Y row h2 hg (fun r e => (hr r e).2), h3⟩)
    ?assign ?body ?done ?stop
  case assign =>
    rintro l pre x W K ⟨⟨⟨c11, c21⟩, cq1, hno⟩, hB1, hB2⟩ hK
    gi_wp2
    exact hK _ _ ((KeepsOthers.alloc _ _).from _) ((KpS.refl _ _ W).alloc (by omega) (by omega) _) ⟨⟨⟨c11.alloc _, c21.alloc _⟩, cq1.alloc _, hno⟩, hB1.alloc hB1.size _, by rw [World.size_alloc]; omega⟩ ⟨W.heap.size, hB2, Bx3.new W x.1, rfl⟩
  case body =>
    rintro l pre x a' W hl ⟨r, hr⟩ ⟨⟨⟨c11, c21⟩, cq1, hno⟩, hB1, hB2⟩ ⟨Bx, hBx, bX, rfl⟩ hlt
    obtain ⟨x0, x1, x2⟩ := bX.cells
    have hpo := x.2
    have HN := Lib.hid (fun h => NoIn.snoc (q := -2880 + m) hno (x := x) h)
    have HF := Lib.hid (fun (h : max x.1.1 (-2880 + m - x.1.2.1) < x.1.2.2) => (⟨pre, x, rfl, hno, h, rfl⟩ : Found (pre ++ [x]) (-2880 + m) (max x.1.1 (-2880 + m - x.1.2.1))))
    obtain ⟨y, hy⟩ : ∃ y : Cl.Sp, y = x.1 := ⟨_, rfl⟩
    rw [← hy] at x0 x1 x2 HN HF hpo
    obtain ⟨p1, p2⟩ := hpo
    obtain ⟨yf, yo, ye⟩ := y
    dsimp only at x0 x1 x2 HN HF p1 p2
    have hq1 := cq1.cell
    have h1 := c11.cell
    have f1 := c11.frozen
    have h2 := c21.cell
    have f2 := c21.frozen
    clear hy hno
    rcases Int.lt_trichotomy yf (-2880 + m - yo) with k0 | rfl | k0
    · have k1 : yf ≤ -2880 + m - yo := by omega
      by_cases k2 : -2880 + m - yo < ye
      · have FF := Lib.hid (HF.out (by rw [Int.max_eq_right k1]; exact k2))
        rw [Int.max_eq_right k1] at FF
        gi_wp2
        exact ⟨((KeepsOthers.setCell _ _ _).trans (KeepsOthers.setCell _ _ _)).from _, ⟨_, ⟨(c11.set _).other (by omega) _, (c21.other (by omega) _).set _⟩, rfl, FF.out⟩, (hB1.setCell (p := ⟨w.heap.size + 1, 0, none⟩) (by simp) _).setCell (p := ⟨w.heap.size + 1 + 1, 0, none⟩) (by simp; omega) _⟩
      · have FN := Lib.hid (HN.out (by rw [Int.max_eq_right k1]; exact k2))
        gi_wp2
        exact ⟨KeepsFrom.refl _ _, KpS.refl _ _ _, ⟨⟨c11, c21⟩, cq1, FN.out⟩, hB1, hB2⟩
    · have k1 : (-2880 + m - yo : Int) ≤ -2880 + m - yo := Int.le_refl _
      by_cases k2 : -2880 + m - yo < ye
      · have FF := Lib.hid (HF.out (by rw [Int.max_eq_right k1]; exact k2))
        rw [Int.max_eq_right k1] at FF
        gi_wp2
        exact ⟨((KeepsOthers.setCell _ _ _).trans (KeepsOthers.setCell _ _ _)).from _, ⟨_, ⟨(c11.set _).other (by omega) _, (c21.other (by omega) _).set _⟩, rfl, FF.out⟩, (hB1.setCell (p := ⟨w.heap.size + 1, 0, none⟩) (by simp) _).setCell (p := ⟨w.heap.size + 1 + 1, 0, none⟩) (by simp; omega) _⟩
      · have FN := Lib.hid (HN.out (by rw [Int.max_eq_right k1]; exact k2))
        gi_wp2
        exact ⟨KeepsFrom.refl _ _, KpS.refl _ _ _, ⟨⟨c11, c21⟩, cq1, FN.out⟩, hB1, hB2⟩
    · have k1' : -2880 + m - yo ≤ yf := by omega
      by_cases k2 : yf < ye
      · have FF := Lib.hid (HF.out (by rw [Int.max_eq_left k1']; exact k2))
        rw [Int.max_eq_left k1'] at FF
        gi_wp2
        exact ⟨((KeepsOthers.setCell _ _ _).trans (KeepsOthers.setCell _ _ _)).from _, ⟨_, ⟨(c11.set _).other (by omega) _, (c21.other (by omega) _).set _⟩, rfl, FF.out⟩, (hB1.setCell (p := ⟨w.heap.size + 1, 0, none⟩) (by simp) _).setCell (p := ⟨w.heap.size + 1 + 1, 0, none⟩) (by simp; omega) _⟩
      · have FN := Lib.hid (HN.out (by rw [Int.max_eq_left k1']; exact k2))
        gi_wp2
        exact ⟨KeepsFrom.refl _ _, KpS.refl _ _ _, ⟨⟨c11, c21⟩, cq1, FN.out⟩, hB1, hB2⟩
  case done =>
    rintro D ys W hD hys ⟨⟨⟨c11, c21⟩, cq1, hno⟩, hB1, hB2⟩ hK
    have he := HR.out _ (hno.done hys)
    unfold Cl.ofI at he
    dsimp only at he
    have h1 := c11.cell
    have f1 := c11.frozen
    have h2 := c21.cell
    have f2 := c21.frozen
    have HE := Lib.hid he
    clear he hys
    gi_wp2
    have hK' := ((KeepsOthers.setCell W ⟨w.heap.size + 1, 0, none⟩ (.int .i64 0)).trans (KeepsOthers.setCell _ ⟨w.heap.size + 1 + 1, 0, none⟩ (.int .i64 10))).same D _ hK rfl
    refine ⟨by simp, .inl ⟨_, _, rfl, run_takeDeferred hK', ?_⟩⟩
    have q1 := cell_kept (((c11.set (.int .i64 0)).other (B' := w.heap.size + 1 + 1) (by omega) (.int .i64 10)).cell) (grownBy_putObj' _ D (.deferred none)) (fun r e => by cases e; exact ⟨_, hK', rfl⟩)
    have q2 := cell_kept (((c21.other (B' := w.heap.size + 1) (by omega) (.int .i64 0)).set (.int .i64 10)).cell) (grownBy_putObj' _ D (.deferred none)) (fun r e => by cases e; exact ⟨_, hK', rfl⟩)
    refine ⟨.tuple #[.int .i64 0, .int .i64 10], ?_, by rw [HE.out], ((hB1.setCell (p := ⟨w.heap.size + 1, 0, none⟩) (by simp) _).setCell (p := ⟨w.heap.size + 1 + 1, 0, none⟩) (by simp; omega) _).trans (belowK_b (w := w) (Nat.le_refl _) _ D _ _ (by omega) hK' rfl rfl)⟩
    simp [results, Tryd.f15, go_sem, q1, q2]
  case stop =>
    rintro D cd pre W hD hpre ⟨⟨t, ⟨c11, c21⟩, rfl, hf⟩, hB1⟩ hK
    have he := HR.out _ (hf.stop hpre)
    unfold Cl.ofI at he
    dsimp only at he
    have HE := Lib.hid he
    clear he hf hpre
    gi_wp2
    refine ⟨by simp, .inl ⟨_, _, rfl, run_takeDeferred hK, ?_⟩⟩
    have q1 := cell_kept c11.cell (grownBy_putObj' _ D (.deferred none)) (fun r e => by cases e; exact ⟨_, hK, rfl⟩)
    have q2 := cell_kept c21.cell (grownBy_putObj' _ D (.deferred none)) (fun r e => by cases e; exact ⟨_, hK, rfl⟩)
    refine ⟨.tuple #[.int .i64 t, .int .i64 0], ?_, by rw [HE.out], hB1.trans (belowK_b (w := w) (Nat.le_refl _) W D _ _ (by omega) hK rfl rfl)⟩
    simp [results, Tryd.f15, go_sem, q1, q2]

set_option maxHeartbeats 2000000 in
theorem instant_mid (A : Option Addr) (c : Nat) (zs : List Cl.Sh) (d m : Int) (w : World) (hz : Zn w w.heap.size A zs) (hv : Cl.vz zs = true) (hm0 : 0 ≤ m) (hm1 : m < 1440) (hd0 : -2 < d) (hd1 : d < 100002) (e : Int × Int) (he : ∀ r, Cl.inst (Cl.sp zs) (d * 1440 + m) = r → e = Cl.ofI r) :
    Calls Tryd.prog 15 #[.agg #[.slice A zs.length c], .int .i64 (d), .int .i64 m] w fun en w' => en = .returned (.tuple #[.int .i64 e.1, .int .i64 e.2]) ∧ Below w.heap.size w w' := by
  have hb0 := Cl.al3 w (.cells #[.slice A zs.length c] 24) (.cells #[.int .i64 0] 3) (.cells #[.int .i64 0] 27)
  have HV := Lib.hid (callsIn_wide (n := 4) |>.2 (valid_any A c zs _ (hz.bt hb0)))
  have HD := Lib.hid (fun w' => callsIn_wide (n := 4) |>.2 (spans_made A zs.length c w'))
  rw [hv] at HV
  have g := Cl.good_of zs hv
  have hfew := g.few
  have HOFF := Lib.hid g.off
  have HR := Lib.hid he
  have HZ := Lib.hid hz
  have bz := ((Boxed.new w 24 (.slice A zs.length c)).alloc (.cells #[.int .i64 0] 3)).alloc (.cells #[.int .i64 0] 27)
  have b1 := (Boxed.new (w.alloc (.cells #[.slice A zs.length c] 24)) 3 (.int .i64 0)).alloc (.cells #[.int .i64 0] 27)
  have b2 := Boxed.new ((w.alloc (.cells #[.slice A zs.length c] 24)).alloc (.cells #[.int .i64 0] 3)) 27 (.int .i64 0)
  simp only [World.size_alloc] at b1 b2
  have hsz0 : (((w.alloc (.cells #[.slice A zs.length c] 24)).alloc (.cells #[.int .i64 0] 3)).alloc (.cells #[.int .i64 0] 27)).heap.size = w.heap.size + 3 := by simp
  have HB := Lib.hid (And.intro bz (And.intro b1 b2))
  have g0 : decide (m < 0) = false := decide_eq_false (by omega)
  have g1 : decide (1440 ≤ m) = false := decide_eq_false (by omega)
  clear bz b1 b2 he hv g hz
  refine (callsIn_wide (n := 5)).1 ?_
  refine callsIn_of_wp_marks Tryd.func15 rfl trivial ?_ rfl
  simp only [Tryd.ntmps15, List.size_toArray, List.length_cons, List.length_nil, Nat.reduceAdd, Nat.reduceSub, Array.replicate_succ, Array.replicate_zero, List.push_toArray, List.append_toArray, List.nil_append, List.cons_append]
  gi_wp2_with (first
    | (refine ⟨trivial, ?_⟩; gi_at_call 22; refine HV.out.mono ?_; clear HV; rintro e w1 ⟨rfl, hb1⟩; obtain ⟨bz1, b11, b21⟩ := HB.out; have bz2 := (Cl.boxed_bt bz1 hb1).cell; have bz3 := Cl.cell_bt bz2 (Cl.al w1 (.cells #[.int .i64 (d * 1440 + m)] 3)))
    | (refine ⟨trivial, ?_⟩; gi_at_call 30; refine (HD.out _).mono ?_; rintro e w' ⟨rfl, rfl⟩))
  have c1 := ((Cl.boxed_bt b11 hb1).alloc (.cells #[.int .i64 (d * 1440 + m)] 3)).alloc (.cells #[.slice A zs.length c] 24)
  have c2 := ((Cl.boxed_bt b21 hb1).alloc (.cells #[.int .i64 (d * 1440 + m)] 3)).alloc (.cells #[.slice A zs.length c] 24)
  have cq := (Boxed.new w1 3 (.int .i64 (d * 1440 + m))).alloc (.cells #[.slice A zs.length c] 24)
  have cz := Boxed.new (w1.alloc (.cells #[.int .i64 (d * 1440 + m)] 3)) 24 (.slice A zs.length c)
  simp only [World.size_alloc] at cz
  have hw1 := hb1.size
  rw [hsz0] at hw1
  have hB0 : Below w.heap.size w ((w1.alloc (.cells #[.int .i64 (d * 1440 + m)] 3)).alloc (.cells #[.slice A zs.length c] 24)) := ((Cl.Nb hb0 hb1).alloc (by omega) _).alloc (by simp; omega) _
  have hsz : ((w1.alloc (.cells #[.int .i64 (d * 1440 + m)] 3)).alloc (.cells #[.slice A zs.length c] 24)).heap.size = w1.heap.size + 2 := by simp
  obtain ⟨W0, hW0⟩ : ∃ W0, ((w1.alloc (.cells #[.int .i64 (d * 1440 + m)] 3)).alloc (.cells #[.slice A zs.length c] 24)) = W0 := ⟨_, rfl⟩
  rw [hW0] at c1 c2 cq cz hB0 hsz ⊢
  clear hW0 hb1 hb0 bz1 b11 b21 bz2 bz3 HB hsz0
  refine wpIn_rangeFunc_ownH (α := SpP POff) rfl (by decide) (gf := 37) (lb := #[.pointer (some ⟨w1.heap.size + 1, 0, none⟩)]) rfl trivial (enters_of Tryd.func37 (by kernel_rfl) rfl)
    (spans1_stops POff 4 (by decide) (w1.heap.size + 1) w.heap.size A c zs (by omega) HOFF.out W0 (by omega) (by omega) cz.cell (HZ.out.below hB0 (Nat.le_refl _))) KpS.trans (kpS_b (by omega) (by omega)) (Below.refl _ _) (fun _ => rfl)
    (fun pre W => ((Boxed W (w.heap.size + 1) 3 (.int .i64 0) ∧ Boxed W (w.heap.size + 1 + 1) 27 (.int .i64 0)) ∧ (Boxed W w1.heap.size 3 (.int .i64 (d * 1440 + m)) ∧ NoIn pre (d * 1440 + m))) ∧ (Below w.heap.size w W ∧ w1.heap.size + 2 ≤ W.heap.size))
    (fun cd pre W => (∃ t, (Boxed W (w.heap.size + 1) 3 (.int .i64 t) ∧ Boxed W (w.heap.size + 1 + 1) 27 (.int .i64 0)) ∧ (cd = .ret ∧ Found pre (d * 1440 + m) t)) ∧ Below w.heap.size w W)
    (OwnFrom.and (OwnFrom.and (OwnFrom.and (Own.from (boxed_own _ _ _) _) (Own.from (boxed_own _ _ _) _)) (OwnFrom.and (Own.from (boxed_own _ _ _) _) (ownFrom_pureC _ _))) (OwnFrom.and (ownFrom_below (Nat.le_refl _) (by omega)) (fun _ _ _ _ h hg _ => Nat.le_trans h hg.size)))
    (fun cd => OwnFrom.and (fun s X Y row hs hg hr => by
      obtain ⟨t, ⟨h1, h2⟩, h3⟩ := hs
      exact ⟨t, ⟨(Own.from (boxed_own (β := Unit) _ _ (fun _ => .int .i64 t)) _) () X Y row h1 hg hr, (Own.from (boxed_own (β := Unit) _ _ (fun _ => .int .i64 0)) _) () X Y row h2 hg hr⟩, h3⟩) (ownFrom_below (Nat.le_refl _) (by omega)))
    ⟨⟨⟨c1, c2⟩, cq, NoIn.nil⟩, hB0, by omega⟩
    (fun x a' W => ∃ Bx, w1.heap.size + 2 ≤ Bx ∧ Bx3 W Bx x.1 ∧ a' = { tmps := #[.agg #[.slice A zs.length c], .int .i64 (d), .int .i64 (m), .pointer (some ⟨w.heap.size, 0, none⟩), undef, undef, .pointer (some ⟨w.heap.size + 1, 0, none⟩), .pointer (some ⟨w.heap.size + 1 + 1, 0, none⟩), .pointer (some ⟨w1.heap.size, 0, none⟩), .pointer (some ⟨Bx, 0, none⟩), undef, .agg #[.slice A zs.length c], .bool true, .bool false, .bool false, .int .i64 (m), .bool false, .bool false, .bool false, .int .i64 (m), .bool false, .bool false, .int .i64 (d), .int .i64 (d), .int .i64 (d), .int .i64 (d), .int .i64 (d * 1440), .int .i64 (m), .int .i64 (d * 1440 + m), .agg #[.slice A zs.length c], .func (.func 37) #[] #[.pointer (some ⟨w1.heap.size + 1, 0, none⟩)], .agg #[.int .i64 x.1.1, .int .i64 x.1.2.1, .int .i64 x.1.2.2], undef, undef, undef, undef, undef, undef, undef, undef, undef, undef, undef, undef, undef, undef], defers := [] })
    (fun x a' _ X Y row hs hg hr => by obtain ⟨Bx, h1, h2, h3⟩ := hs; exact ⟨Bx, h1, bx3_own Bx x.1 () X Y row h2 hg (fun r e => (hr r e).2), h3⟩)
    ?assign ?body ?done ?stop
  case assign =>
    rintro l pre x W K ⟨⟨⟨c11, c21⟩, cq1, hno⟩, hB1, hB2⟩ hK
    gi_wp2
    exact hK _ _ ((KeepsOthers.alloc _ _).from _) ((KpS.refl _ _ W).alloc (by omega) (by omega) _) ⟨⟨⟨c11.alloc _, c21.alloc _⟩, cq1.alloc _, hno⟩, hB1.alloc hB1.size _, by rw [World.size_alloc]; omega⟩ ⟨W.heap.size, hB2, Bx3.new W x.1, rfl⟩
  case body =>
    rintro l pre x a' W hl ⟨r, hr⟩ ⟨⟨⟨c11, c21⟩, cq1, hno⟩, hB1, hB2⟩ ⟨Bx, hBx, bX, rfl⟩ hlt
    obtain ⟨x0, x1, x2⟩ := bX.cells
    have hpo := x.2
    have HN := Lib.hid (fun h => NoIn.snoc (q := d * 1440 + m) hno (x := x) h)
    have HF := Lib.hid (fun (h : max x.1.1 (d * 1440 + m - x.1.2.1) < x.1.2.2) => (⟨pre, x, rfl, hno, h, rfl⟩ : Found (pre ++ [x]) (d * 1440 + m) (max x.1.1 (d * 1440 + m - x.1.2.1))))
    obtain ⟨y, hy⟩ : ∃ y : Cl.Sp, y = x.1 := ⟨_, rfl⟩
    rw [← hy] at x0 x1 x2 HN HF hpo
    obtain ⟨p1, p2⟩ := hpo
    obtain ⟨yf, yo, ye⟩ := y
    dsimp only at x0 x1 x2 HN HF p1 p2
    have hq1 := cq1.cell
    have h1 := c11.cell
    have f1 := c11.frozen
    have h2 := c21.cell
    have f2 := c21.frozen
    clear hy hno
    rcases Int.lt_trichotomy yf (d * 1440 + m - yo) with k0 | rfl | k0
    · have k1 : yf ≤ d * 1440 + m - yo := by omega
      by_cases k2 : d * 1440 + m - yo < ye
      · have FF := Lib.hid (HF.out (by rw [Int.max_eq_right k1]; exact k2))
        rw [Int.max_eq_right k1] at FF
        gi_wp2
        exact ⟨((KeepsOthers.setCell _ _ _).trans (KeepsOthers.setCell _ _ _)).from _, ⟨_, ⟨(c11.set _).other (by omega) _, (c21.other (by omega) _).set _⟩, rfl, FF.out⟩, (hB1.setCell (p := ⟨w.heap.size + 1, 0, none⟩) (by simp) _).setCell (p := ⟨w.heap.size + 1 + 1, 0, none⟩) (by simp; omega) _⟩
      · have FN := Lib.hid (HN.out (by rw [Int.max_eq_right k1]; exact k2))
        gi_wp2
        exact ⟨KeepsFrom.refl _ _, KpS.refl _ _ _, ⟨⟨c11, c21⟩, cq1, FN.out⟩, hB1, hB2⟩
    · have k1 : (d * 1440 + m - yo : Int) ≤ d * 1440 + m - yo := Int.le_refl _
      by_cases k2 : d * 1440 + m - yo < ye
      · have FF := Lib.hid (HF.out (by rw [Int.max_eq_right k1]; exact k2))
        rw [Int.max_eq_right k1] at FF
        gi_wp2
        exact ⟨((KeepsOthers.setCell _ _ _).trans (KeepsOthers.setCell _ _ _)).from _, ⟨_, ⟨(c11.set _).other (by omega) _, (c21.other (by omega) _).set _⟩, rfl, FF.out⟩, (hB1.setCell (p := ⟨w.heap.size + 1, 0, none⟩) (by simp) _).setCell (p := ⟨w.heap.size + 1 + 1, 0, none⟩) (by simp; omega) _⟩
      · have FN := Lib.hid (HN.out (by rw [Int.max_eq_right k1]; exact k2))
        gi_wp2
        exact ⟨KeepsFrom.refl _ _, KpS.refl _ _ _, ⟨⟨c11, c21⟩, cq1, FN.out⟩, hB1, hB2⟩
    · have k1' : d * 1440 + m - yo ≤ yf := by omega
      by_cases k2 : yf < ye
      · have FF := Lib.hid (HF.out (by rw [Int.max_eq_left k1']; exact k2))
        rw [Int.max_eq_left k1'] at FF
        gi_wp2
        exact ⟨((KeepsOthers.setCell _ _ _).trans (KeepsOthers.setCell _ _ _)).from _, ⟨_, ⟨(c11.set _).other (by omega) _, (c21.other (by omega) _).set _⟩, rfl, FF.out⟩, (hB1.setCell (p := ⟨w.heap.size + 1, 0, none⟩) (by simp) _).setCell (p := ⟨w.heap.size + 1 + 1, 0, none⟩) (by simp; omega) _⟩
      · have FN := Lib.hid (HN.out (by rw [Int.max_eq_left k1']; exact k2))
        gi_wp2
        exact ⟨KeepsFrom.refl _ _, KpS.refl _ _ _, ⟨⟨c11, c21⟩, cq1, FN.out⟩, hB1, hB2⟩
  case done =>
    rintro D ys W hD hys ⟨⟨⟨c11, c21⟩, cq1, hno⟩, hB1, hB2⟩ hK
    have he := HR.out _ (hno.done hys)
    unfold Cl.ofI at he
    dsimp only at he
    have h1 := c11.cell
    have f1 := c11.frozen
    have h2 := c21.cell
    have f2 := c21.frozen
    have HE := Lib.hid he
    clear he hys
    gi_wp2
    have hK' := ((KeepsOthers.setCell W ⟨w.heap.size + 1, 0, none⟩ (.int .i64 0)).trans (KeepsOthers.setCell _ ⟨w.heap.size + 1 + 1, 0, none⟩ (.int .i64 10))).same D _ hK rfl
    refine ⟨by simp, .inl ⟨_, _, rfl, run_takeDeferred hK', ?_⟩⟩
    have q1 := cell_kept (((c11.set (.int .i64 0)).other (B' := w.heap.size + 1 + 1) (by omega) (.int .i64 10)).cell) (grownBy_putObj' _ D (.deferred none)) (fun r e => by cases e; exact ⟨_, hK', rfl⟩)
    have q2 := cell_kept (((c21.other (B' := w.heap.size + 1) (by omega) (.int .i64 0)).set (.int .i64 10)).cell) (grownBy_putObj' _ D (.deferred none)) (fun r e => by cases e; exact ⟨_, hK', rfl⟩)
    refine ⟨.tuple #[.int .i64 0, .int .i64 10], ?_, by rw [HE.out], ((hB1.setCell (p := ⟨w.heap.size + 1, 0, none⟩) (by simp) _).setCell (p := ⟨w.heap.size + 1 + 1, 0, none⟩) (by simp; omega) _).trans (belowK_b (w := w) (Nat.le_refl _) _ D _ _ (by omega) hK' rfl rfl)⟩
    simp [results, Tryd.f15, go_sem, q1, q2]
  case stop =>
    rintro D cd pre W hD hpre ⟨⟨t, ⟨c11, c21⟩, rfl, hf⟩, hB1⟩ hK
    have he := HR.out _ (hf.stop hpre)
    unfold Cl.ofI at he
    dsimp only at he
    have HE := Lib.hid he
    clear he hf hpre
    gi_wp2
    refine ⟨by simp, .inl ⟨_, _, rfl, run_takeDeferred hK, ?_⟩⟩
    have q1 := cell_kept c11.cell (grownBy_putObj' _ D (.deferred none)) (fun r e => by cases e; exact ⟨_, hK, rfl⟩)
    have q2 := cell_kept c21.cell (grownBy_putObj' _ D (.deferred none)) (fun r e => by cases e; exact ⟨_, hK, rfl⟩)
    refine ⟨.tuple #[.int .i64 t, .int .i64 0], ?_, by rw [HE.out], hB1.trans (belowK_b (w := w) (Nat.le_refl _) W D _ _ (by omega) hK rfl rfl)⟩
    simp [results, Tryd.f15, go_sem, q1, q2]

set_option maxHeartbeats 2000000 in
theorem instant_m2 (A : Option Addr) (c : Nat) (zs : List Cl.Sh) (m : Int) (w : World) (hz : Zn w w.heap.size A zs) (hv : Cl.vz zs = true) (hm0 : 0 ≤ m) (hm1 : m < 1440)  (e : Int × Int) (he : ∀ r, Cl.inst (Cl.sp zs) (-2880 + m) = r → e = Cl.ofI r) :
    Calls Tryd.prog 15 #[.agg #[.slice A zs.length c], .int .i64 (-2), .int .i64 m] w fun en w' => en = .returned (.tuple #[.int .i64 e.1, .int .i64 e.2]) ∧ Below w.heap.size w w' := by
  have hb0 := Cl.al3 w (.cells #[.slice A zs.length c] 24) (.cells #[.int .i64 0] 3) (.cells #[.int .i64 0] 27)
  have HV := Lib.hid (callsIn_wide (n := 4) |>.2 (valid_any A c zs _ (hz.bt hb0)))
  have HD := Lib.hid (fun w' => callsIn_wide (n := 4) |>.2 (spans_made A zs.length c w'))
  rw [hv] at HV
  have g := Cl.good_of zs hv
  have hfew := g.few
  have HOFF := Lib.hid g.off
  have HR := Lib.hid he
  have HZ := Lib.hid hz
  have bz := ((Boxed.new w 24 (.slice A zs.length c)).alloc (.cells #[.int .i64 0] 3)).alloc (.cells #[.int .i64 0] 27)
  have b1 := (Boxed.new (w.alloc (.cells #[.slice A zs.length c] 24)) 3 (.int .i64 0)).alloc (.cells #[.int .i64 0] 27)
  have b2 := Boxed.new ((w.alloc (.cells #[.slice A zs.length c] 24)).alloc (.cells #[.int .i64 0] 3)) 27 (.int .i64 0)
  simp only [World.size_alloc] at b1 b2
  have hsz0 : (((w.alloc (.cells #[.slice A zs.length c] 24)).alloc (.cells #[.int .i64 0] 3)).alloc (.cells #[.int .i64 0] 27)).heap.size = w.heap.size + 3 := by simp
  have HB := Lib.hid (And.intro bz (And.intro b1 b2))
  have g0 : decide (m < 0) = false := decide_eq_false (by omega)
  have g1 : decide (1440 ≤ m) = false := decide_eq_false (by omega)
  clear bz b1 b2 he hv g hz
  refine (callsIn_wide (n := 5)).1 ?_
  refine callsIn_of_wp_marks Tryd.func15 rfl trivial ?_ rfl
  simp only [Tryd.ntmps15, List.size_toArray, List.length_cons, List.length_nil, Nat.reduceAdd, Nat.reduceSub, Array.replicate_succ, Array.replicate_zero, List.push_toArray, List.append_toArray, List.nil_append, List.cons_append]
  gi_wp2_with (first
    | (refine ⟨trivial, ?_⟩; gi_at_call 22; refine HV.out.mono ?_; clear HV; rintro e w1 ⟨rfl, hb1⟩; obtain ⟨bz1, b11, b21⟩ := HB.out; have bz2 := (Cl.boxed_bt bz1 hb1).cell; have bz3 := Cl.cell_bt bz2 (Cl.al w1 (.cells #[.int .i64 (-2880 + m)] 3)))
    | (refine ⟨trivial, ?_⟩; gi_at_call 30; refine (HD.out _).mono ?_; rintro e w' ⟨rfl, rfl⟩))
  have c1 := ((Cl.boxed_bt b11 hb1).alloc (.cells #[.int .i64 (-2880 + m)] 3)).alloc (.cells #[.slice A zs.length c] 24)
  have c2 := ((Cl.boxed_bt b21 hb1).alloc (.cells #[.int .i64 (-2880 + m)] 3)).alloc (.cells #[.slice A zs.length c] 24)
  have cq := (Boxed.new w1 3 (.int .i64 (-2880 + m))).alloc (.cells #[.slice A zs.length c] 24)
  have cz := Boxed.new (w1.alloc (.cells #[.int .i64 (-2880 + m)] 3)) 24 (.slice A zs.length c)
  simp only [World.size_alloc] at cz
  have hw1 := hb1.size
  rw [hsz0] at hw1
  have hB0 : Below w.heap.size w ((w1.alloc (.cells #[.int .i64 (-2880 + m)] 3)).alloc (.cells #[.slice A zs.length c] 24)) := ((Cl.Nb hb0 hb1).alloc (by omega) _).alloc (by simp; omega) _
  have hsz : ((w1.alloc (.cells #[.int .i64 (-2880 + m)] 3)).alloc (.cells #[.slice A zs.length c] 24)).heap.size = w1.heap.size + 2 := by simp
  obtain ⟨W0, hW0⟩ : ∃ W0, ((w1.alloc (.cells #[.int .i64 (-2880 + m)] 3)).alloc (.cells #[.slice A zs.length c] 24)) = W0 := ⟨_, rfl⟩
  rw [hW0] at c1 c2 cq cz hB0 hsz ⊢
  clear hW0 hb1 hb0 bz1 b11 b21 bz2 bz3 HB hsz0
  refine wpIn_rangeFunc_ownH (α := SpP POff) rfl (by decide) (gf := 37) (lb := #[.pointer (some ⟨w1.heap.size + 1, 0, none⟩)]) rfl trivial (enters_of Tryd.func37 (by kernel_rfl) rfl)
    (spans1_stops POff 4 (by decide) (w1.heap.size + 1) w.heap.size A c zs (by omega) HOFF.out W0 (by omega) (by omega) cz.cell (HZ.out.below hB0 (Nat.le_refl _))) KpS.trans (kpS_b (by omega) (by omega)) (Below.refl _ _) (fun _ => rfl)
    (fun pre W => ((Boxed W (w.heap.size + 1) 3 (.int .i64 0) ∧ Boxed W (w.heap.size + 1 + 1) 27 (.int .i64 0)) ∧ (Boxed W w1.heap.size 3 (.int .i64 (-2880 + m)) ∧ NoIn pre (-2880 + m))) ∧ (Below w.heap.size w W ∧ w1.heap.size + 2 ≤ W.heap.size))
    (fun cd pre W => (∃ t, (Boxed W (w.heap.size + 1) 3 (.int .i64 t) ∧ Boxed W (w.heap.size + 1 + 1) 27 (.int .i64 0)) ∧ (cd = .ret ∧ Found pre (-2880 + m) t)) ∧ Below w.heap.size w W)
    (OwnFrom.and (OwnFrom.and (OwnFrom.and (Own.from (boxed_own _ _ _) _) (Own.from (boxed_own _ _ _) _)) (OwnFrom.and (Own.from (boxed_own _ _ _) _) (ownFrom_pureC _ _))) (OwnFrom.and (ownFrom_below (Nat.le_refl _) (by omega)) (fun _ _ _ _ h hg _ => Nat.le_trans h hg.size)))
    (fun cd => OwnFrom.and (fun s X Y row hs hg hr => by
      obtain ⟨t, ⟨h1, h2⟩, h3⟩ := hs
      exact ⟨t, ⟨(Own.from (boxed_own (β := Unit) _ _ (fun _ => .int .i64 t)) _) () X Y row h1 hg hr, (Own.from (boxed_own (β := Unit) _ _ (fun _ => .int .i64 0)) _) () X Y row h2 hg hr⟩, h3⟩) (ownFrom_below (Nat.le_refl _) (by omega)))
    ⟨⟨⟨c1, c2⟩, cq, NoIn.nil⟩, hB0, by omega⟩
    (fun x a' W => ∃ Bx, w1.heap.size + 2 ≤ Bx ∧ Bx3 W Bx x.1 ∧ a' = { tmps := #[.agg #[.slice A zs.length c], .int .i64 (-2), .int .i64 (m), .pointer (some ⟨w.heap.size, 0, none⟩), undef, undef, .pointer (some ⟨w.heap.size + 1, 0, none⟩), .pointer (some ⟨w.heap.size + 1 + 1, 0, none⟩), .pointer (some ⟨w1.heap.size, 0, none⟩), .pointer (some ⟨Bx, 0, none⟩), undef, .agg #[.slice A zs.length c], .bool true, .bool false, .bool false, .int .i64 (m), .bool false, .bool false, .bool false, .int .i64 (m), .bool false, .bool false, .int .i64 (-2), .int .i64 (-2), .int .i64 (-2), .int .i64 (-2), .int .i64 (-2880), .int .i64 (m), .int .i64 (-2880 + m), .agg #[.slice A zs.length c], .func (.func 37) #[] #[.pointer (some ⟨w1.heap.size + 1, 0, none⟩)], .agg #[.int .i64 x.1.1, .int .i64 x.1.2.1, .int .i64 x.1.2.2], undef, undef, undef, undef, undef, undef, undef, undef, undef, undef, undef, undef, undef, undef], defers := [] })
    (fun x a' _ X Y row hs hg hr => by obtain ⟨Bx, h1, h2, h3⟩ := hs; exact ⟨Bx, h1, bx3_own Bx x.1 () X Y row h2 hg (fun r e => (hr r e).2), h3⟩)
    ?assign ?body ?done ?stop
  case assign =>
    rintro l pre x W K ⟨⟨⟨c11, c21⟩, cq1, hno⟩, hB1, hB2⟩ hK
    gi_wp2
    exact hK _ _ ((KeepsOthers.alloc _ _).from _) ((KpS.refl _ _ W).alloc (by omega) (by omega) _) ⟨⟨⟨c11.alloc _, c21.alloc _⟩, cq1.alloc _, hno⟩, hB1.alloc hB1.size _, by rw [World.size_alloc]; omega⟩ ⟨W.heap.size, hB2, Bx3.new W x.1, rfl⟩
  case body =>
    rintro l pre x a' W hl ⟨r, hr⟩ ⟨⟨⟨c11, c21⟩, cq1, hno⟩, hB1, hB2⟩ ⟨Bx, hBx, bX, rfl⟩ hlt
    obtain ⟨x0, x1, x2⟩ := bX.cells
    have hpo := x.2
    have HN := Lib.hid (fun h => NoIn.snoc (q := -2880 + m) hno (x := x) h)
    have HF := Lib.hid (fun (h : max x.1.1 (-2880 + m - x.1.2.1) < x.1.2.2) => (⟨pre, x, rfl, hno, h, rfl⟩ : Found (pre ++ [x]) (-2880 + m) (max x.1.1 (-2880 + m - x.1.2.1))))
    obtain ⟨y, hy⟩ : ∃ y : Cl.Sp, y = x.1 := ⟨_, rfl⟩
    rw [← hy] at x0 x1 x2 HN HF hpo
    obtain ⟨p1, p2⟩ := hpo
    obtain ⟨yf, yo, ye⟩ := y
    dsimp only at x0 x1 x2 HN HF p1 p2
    have hq1 := cq1.cell
    have h1 := c11.cell
    have f1 := c11.frozen
    have h2 := c21.cell
    have f2 := c21.frozen
    clear hy hno
    rcases Int.lt_trichotomy yf (-2880 + m - yo) with k0 | rfl | k0
    · have k1 : yf ≤ -2880 + m - yo := by omega
      by_cases k2 : -2880 + m - yo < ye
      · have FF := Lib.hid (HF.out (by rw [Int.max_eq_right k1]; exact k2))
        rw [Int.max_eq_right k1] at FF
        gi_wp2
        exact ⟨((KeepsOthers.setCell _ _ _).trans (KeepsOthers.setCell _ _ _)).from _, ⟨_, ⟨(c11.set _).other (by omega) _, (c21.other (by omega) _).set _⟩, rfl, FF.out⟩, (hB1.setCell (p := ⟨w.heap.size + 1, 0, none⟩) (by simp) _).setCell (p := ⟨w.heap.size + 1 + 1, 0, none⟩) (by simp; omega) _⟩
      · have FN := Lib.hid (HN.out (by rw [Int.max_eq_right k1]; exact k2))
        gi_wp2
        exact ⟨KeepsFrom.refl _ _, KpS.refl _ _ _, ⟨⟨c11, c21⟩, cq1, FN.out⟩, hB1, hB2⟩
    · have k1 : (-2880 + m - yo : Int) ≤ -2880 + m - yo := Int.le_refl _
      by_cases k2 : -2880 + m - yo < ye
      · have FF := Lib.hid (HF.out (by rw [Int.max_eq_right k1]; exact k2))
        rw [Int.max_eq_right k1] at FF
        gi_wp2
        exact ⟨((KeepsOthers.setCell _ _ _).trans (KeepsOthers.setCell _ _ _)).from _, ⟨_, ⟨(c11.set _).other (by omega) _, (c21.other (by omega) _).set _⟩, rfl, FF.out⟩, (hB1.setCell (p := ⟨w.heap.size + 1, 0, none⟩) (by simp) _).setCell (p := ⟨w.heap.size + 1 + 1, 0, none⟩) (by simp; omega) _⟩
      · have FN := Lib.hid (HN.out (by rw [Int.max_eq_right k1]; exact k2))
        gi_wp2
        exact ⟨KeepsFrom.refl _ _, KpS.refl _ _ _, ⟨⟨c11, c21⟩, cq1, FN.out⟩, hB1, hB2⟩
    · have k1' : -2880 + m - yo ≤ yf := by omega
      by_cases k2 : yf < ye
      · have FF := Lib.hid (HF.out (by rw [Int.max_eq_left k1']; exact k2))
        rw [Int.max_eq_left k1'] at FF
        gi_wp2
        exact ⟨((KeepsOthers.setCell _ _ _).trans (KeepsOthers.setCell _ _ _)).from _, ⟨_, ⟨(c11.set _).other (by omega) _, (c21.other (by omega) _).set _⟩, rfl, FF.out⟩, (hB1.setCell (p := ⟨w.heap.size + 1, 0, none⟩) (by simp) _).setCell (p := ⟨w.heap.size + 1 + 1, 0, none⟩) (by simp; omega) _⟩
      · have FN := Lib.hid (HN.out (by rw [Int.max_eq_left k1']; exact k2))
        gi_wp2
        exact ⟨KeepsFrom.refl _ _, KpS.refl _ _ _, ⟨⟨c11, c21⟩, cq1, FN.out⟩, hB1, hB2⟩
  case done =>
    rintro D ys W hD hys ⟨⟨⟨c11, c21⟩, cq1, hno⟩, hB1, hB2⟩ hK
    have he := HR.out _ (hno.done hys)
    unfold Cl.ofI at he
    dsimp only at he
    have h1 := c11.cell
    have f1 := c11.frozen
    have h2 := c21.cell
    have f2 := c21.frozen
    have HE := Lib.hid he
    clear he hys
    gi_wp2
    have hK' := ((KeepsOthers.setCell W ⟨w.heap.size + 1, 0, none⟩ (.int .i64 0)).trans (KeepsOthers.setCell _ ⟨w.heap.size + 1 + 1, 0, none⟩ (.int .i64 10))).same D _ hK rfl
    refine ⟨by simp, .inl ⟨_, _, rfl, run_takeDeferred hK', ?_⟩⟩
    have q1 := cell_kept (((c11.set (.int .i64 0)).other (B' := w.heap.size + 1 + 1) (by omega) (.int .i64 10)).cell) (grownBy_putObj' _ D (.deferred none)) (fun r e => by cases e; exact ⟨_, hK', rfl⟩)
    have q2 := cell_kept (((c21.other (B' := w.heap.size + 1) (by omega) (.int .i64 0)).set (.int .i64 10)).cell) (grownBy_putObj' _ D (.deferred none)) (fun r e => by cases e; exact ⟨_, hK', rfl⟩)
    refine ⟨.tuple #[.int .i64 0, .int .i64 10], ?_, by rw [HE.out], ((hB1.setCell (p := ⟨w.heap.size + 1, 0, none⟩) (by simp) _).setCell (p := ⟨w.heap.size + 1 + 1, 0, none⟩) (by simp; omega) _).trans (belowK_b (w := w) (Nat.le_refl _) _ D _ _ (by omega) hK' rfl rfl)⟩
    simp [results, Tryd.f15, go_sem, q1, q2]
  case stop =>
    rintro D cd pre W hD hpre ⟨⟨t, ⟨c11, c21⟩, rfl, hf⟩, hB1⟩ hK
    have he := HR.out _ (hf.stop hpre)
    unfold Cl.ofI at he
    dsimp only at he
    have HE := Lib.hid he
    clear he hf hpre
    gi_wp2
    refine ⟨by simp, .inl ⟨_, _, rfl, run_takeDeferred hK, ?_⟩⟩
    have q1 := cell_kept c11.cell (grownBy_putObj' _ D (.deferred none)) (fun r e => by cases e; exact ⟨_, hK, rfl⟩)
    have q2 := cell_kept c21.cell (grownBy_putObj' _ D (.deferred none)) (fun r e => by cases e; exact ⟨_, hK, rfl⟩)
    refine ⟨.tuple #[.int .i64 t, .int .i64 0], ?_, by rw [HE.out], hB1.trans (belowK_b (w := w) (Nat.le_refl _) W D _ _ (by omega) hK rfl rfl)⟩
    simp [results, Tryd.f15, go_sem, q1, q2]

set_option maxHeartbeats 2000000 in
theorem instant_x2 (A : Option Addr) (c : Nat) (zs : List Cl.Sh) (m : Int) (w : World) (hz : Zn w w.heap.size A zs) (hv : Cl.vz zs = true) (hm0 : 0 ≤ m) (hm1 : m < 1440)  (e : Int × Int) (he : ∀ r, Cl.inst (Cl.sp zs) (144002880 + m) = r → e = Cl.ofI r) :
    Calls Tryd.prog 15 #[.agg #[.slice A zs.length c], .int .i64 (100002), .int .i64 m] w fun en w' => en = .returned (.tuple #[.int .i64 e.1, .int .i64 e.2]) ∧ Below w.heap.size w w' := by
  have hb0 := Cl.al3 w (.cells #[.slice A zs.length c] 24) (.cells #[.int .i64 0] 3) (.cells #[.int .i64 0] 27)
  have HV := Lib.hid (callsIn_wide (n := 4) |>.2 (valid_any A c zs _ (hz.bt hb0)))
  have HD := Lib.hid (fun w' => callsIn_wide (n := 4) |>.2 (spans_made A zs.length c w'))
  rw [hv] at HV
  have g := Cl.good_of zs hv
  have hfew := g.few
  have HOFF := Lib.hid g.off
  have HR := Lib.hid he
  have HZ := Lib.hid hz
  have bz := ((Boxed.new w 24 (.slice A zs.length c)).alloc (.cells #[.int .i64 0] 3)).alloc (.cells #[.int .i64 0] 27)
  have b1 := (Boxed.new (w.alloc (.cells #[.slice A zs.length c] 24)) 3 (.int .i64 0)).alloc (.cells #[.int .i64 0] 27)
  have b2 := Boxed.new ((w.alloc (.cells #[.slice A zs.length c] 24)).alloc (.cells #[.int .i64 0] 3)) 27 (.int .i64 0)
  simp only [World.size_alloc] at b1 b2
  have hsz0 : (((w.alloc (.cells #[.slice A zs.length c] 24)).alloc (.cells #[.int .i64 0] 3)).alloc (.cells #[.int .i64 0] 27)).heap.size = w.heap.size + 3 := by simp
  have HB := Lib.hid (And.intro bz (And.intro b1 b2))
  have g0 : decide (m < 0) = false := decide_eq_false (by omega)
  have g1 : decide (1440 ≤ m) = false := decide_eq_false (by omega)
  clear bz b1 b2 he hv g hz
  refine (callsIn_wide (n := 5)).1 ?_
  refine callsIn_of_wp_marks Tryd.func15 rfl trivial ?_ rfl
  simp only [Tryd.ntmps15, List.size_toArray, List.length_cons, List.length_nil, Nat.reduceAdd, Nat.reduceSub, Array.replicate_succ, Array.replicate_zero, List.push_toArray, List.append_toArray, List.nil_append, List.cons_append]
  gi_wp2_with (first
    | (refine ⟨trivial, ?_⟩; gi_at_call 22; refine HV.out.mono ?_; clear HV; rintro e w1 ⟨rfl, hb1⟩; obtain ⟨bz1, b11, b21⟩ := HB.out; have bz2 := (Cl.boxed_bt bz1 hb1).cell; have bz3 := Cl.cell_bt bz2 (Cl.al w1 (.cells #[.int .i64 (144002880 + m)] 3)))
    | (refine ⟨trivial, ?_⟩; gi_at_call 30; refine (HD.out _).mono ?_; rintro e w' ⟨rfl, rfl⟩))
  have c1 := ((Cl.boxed_bt b11 hb1).alloc (.cells #[.int .i64 (144002880 + m)] 3)).alloc (.cells #[.slice A zs.length c] 24)
  have c2 := ((Cl.boxed_bt b21 hb1).alloc (.cells #[.int .i64 (144002880 + m)] 3)).alloc (.cells #[.slice A zs.length c] 24)
  have cq := (Boxed.new w1 3 (.int .i64 (144002880 + m))).alloc (.cells #[.slice A zs.length c] 24)
  have cz := Boxed.new (w1.alloc (.cells #[.int .i64 (144002880 + m)] 3)) 24 (.slice A zs.length c)
  simp only [World.size_alloc] at cz
  have hw1 := hb1.size
  rw [hsz0] at hw1
  have hB0 : Below w.heap.size w ((w1.alloc (.cells #[.int .i64 (144002880 + m)] 3)).alloc (.cells #[.slice A zs.length c] 24)) := ((Cl.Nb hb0 hb1).alloc (by omega) _).alloc (by simp; omega) _
  have hsz : ((w1.alloc (.cells #[.int .i64 (144002880 + m)] 3)).alloc (.cells #[.slice A zs.length c] 24)).heap.size = w1.heap.size + 2 := by simp
  obtain ⟨W0, hW0⟩ : ∃ W0, ((w1.alloc (.cells #[.int .i64 (144002880 + m)] 3)).alloc (.cells #[.slice A zs.length c] 24)) = W0 := ⟨_, rfl⟩
  rw [hW0] at c1 c2 cq cz hB0 hsz ⊢
  clear hW0 hb1 hb0 bz1 b11 b21 bz2 bz3 HB hsz0
  refine wpIn_rangeFunc_ownH (α := SpP POff) rfl (by decide) (gf := 37) (lb := #[.pointer (some ⟨w1.heap.size + 1, 0, none⟩)]) rfl trivial (enters_of Tryd.func37 (by kernel_rfl) rfl)
    (spans1_stops POff 4 (by decide) (w1.heap.size + 1) w.heap.size A c zs (by omega) HOFF.out W0 (by omega) (by omega) cz.cell (HZ.out.below hB0 (Nat.le_refl _))) KpS.trans (kpS_b (by omega) (by omega)) (Below.refl _ _) (fun _ => rfl)
    (fun pre W => ((Boxed W (w.heap.size + 1) 3 (.int .i64 0) ∧ Boxed W (w.heap.size + 1 + 1) 27 (.int .i64 0)) ∧ (Boxed W w1.heap.size 3 (.int .i64 (144002880 + m)) ∧ NoIn pre (144002880 + m))) ∧ (Below w.heap.size w W ∧ w1.heap.size + 2 ≤ W.heap.size))
    (fun cd pre W => (∃ t, (Boxed W (w.heap.size + 1) 3 (.int .i64 t) ∧ Boxed W (w.heap.size + 1 + 1) 27 (.int .i64 0)) ∧ (cd = .ret ∧ Found pre (144002880 + m) t)) ∧ Below w.heap.size w W)
    (OwnFrom.and (OwnFrom.and (OwnFrom.and (Own.from (boxed_own _ _ _) _) (Own.from (boxed_own _ _ _) _)) (OwnFrom.and (Own.from (boxed_own _ _ _) _) (ownFrom_pureC _ _))) (OwnFrom.and (ownFrom_below (Nat.le_refl _) (by omega)) (fun _ _ _ _ h hg _ => Nat.le_trans h hg.size)))
    (fun cd => OwnFrom.and (fun s X Y row hs hg hr => by
      obtain ⟨t, ⟨h1, h2⟩, h3⟩ := hs
      exact ⟨t, ⟨(Own.from (boxed_own (β := Unit) _ _ (fun _ => .int .i64 t)) _) () X Y row h1 hg hr, (Own.from (boxed_own (β := Unit) _ _ (fun _ => .int .i64 0)) _) () X Y row h2 hg hr⟩, h3⟩) (ownFrom_below (Nat.le_refl _) (by omega)))
    ⟨⟨⟨c1, c2⟩, cq, NoIn.nil⟩, hB0, by omega⟩
    (fun x a' W => ∃ Bx, w1.heap.size + 2 ≤ Bx ∧ Bx3 W Bx x.1 ∧ a' = { tmps := #[.agg #[.slice A zs.length c], .int .i64 (100002), .int .i64 (m), .pointer (some ⟨w.heap.size, 0, none⟩), undef, undef, .pointer (some ⟨w.heap.size + 1, 0, none⟩), .pointer (some ⟨w.heap.size + 1 + 1, 0, none⟩), .pointer (some ⟨w1.heap.size, 0, none⟩), .pointer (some ⟨Bx, 0, none⟩), undef, .agg #[.slice A zs.length c], .bool true, .bool false, .bool false, .int .i64 (m), .bool false, .bool false, .bool false, .int .i64 (m), .bool false, .bool false, .int .i64 (100002), .int .i64 (100002), .int .i64 (100002), .int .i64 (100002), .int .i64 (144002880), .int .i64 (m), .int .i64 (144002880 + m), .agg #[.slice A zs.length c], .func (.func 37) #[] #[.pointer (some ⟨w1.heap.size + 1, 0, none⟩)], .agg #[.int .i64 x.1.1, .int .i64 x.1.2.1, .int .i64 x.1.2.2], undef, undef, undef, undef, undef, undef, undef, undef, undef, undef, undef, undef, undef, undef], defers := [] })
    (fun x a' _ X Y row hs hg hr => by obtain ⟨Bx, h1, h2, h3⟩ := hs; exact ⟨Bx, h1, bx3_own Bx x.1 () X Y row h2 hg (fun r e => (hr r e).2), h3⟩)
    ?assign ?body ?done ?stop
  case assign =>
    rintro l pre x W K ⟨⟨⟨c11, c21⟩, cq1, hno⟩, hB1, hB2⟩ hK
    gi_wp2
    exact hK _ _ ((KeepsOthers.alloc _ _).from _) ((KpS.refl _ _ W).alloc (by omega) (by omega) _) ⟨⟨⟨c11.alloc _, c21.alloc _⟩, cq1.alloc _, hno⟩, hB1.alloc hB1.size _, by rw [World.size_alloc]; omega⟩ ⟨W.heap.size, hB2, Bx3.new W x.1, rfl⟩
  case body =>
    rintro l pre x a' W hl ⟨r, hr⟩ ⟨⟨⟨c11, c21⟩, cq1, hno⟩, hB1, hB2⟩ ⟨Bx, hBx, bX, rfl⟩ hlt
    obtain ⟨x0, x1, x2⟩ := bX.cells
    have hpo := x.2
    have HN := Lib.hid (fun h => NoIn.snoc (q := 144002880 + m) hno (x := x) h)
    have HF := Lib.hid (fun (h : max x.1.1 (144002880 + m - x.1.2.1) < x.1.2.2) => (⟨pre, x, rfl, hno, h, rfl⟩ : Found (pre ++ [x]) (144002880 + m) (max x.1.1 (144002880 + m - x.1.2.1))))
    obtain ⟨y, hy⟩ : ∃ y : Cl.Sp, y = x.1 := ⟨_, rfl⟩
    rw [← hy] at x0 x1 x2 HN HF hpo
    obtain ⟨p1, p2⟩ := hpo
    obtain ⟨yf, yo, ye⟩ := y
    dsimp only at x0 x1 x2 HN HF p1 p2
    have hq1 := cq1.cell
    have h1 := c11.cell
    have f1 := c11.frozen
    have h2 := c21.cell
    have f2 := c21.frozen
    clear hy hno
    rcases Int.lt_trichotomy yf (144002880 + m - yo) with k0 | rfl | k0
    · have k1 : yf ≤ 144002880 + m - yo := by omega
      by_cases k2 : 144002880 + m - yo < ye
      · have FF := Lib.hid (HF.out (by rw [Int.max_eq_right k1]; exact k2))
        rw [Int.max_eq_right k1] at FF
        gi_wp2
        exact ⟨((KeepsOthers.setCell _ _ _).trans (KeepsOthers.setCell _ _ _)).from _, ⟨_, ⟨(c11.set _).other (by omega) _, (c21.other (by omega) _).set _⟩, rfl, FF.out⟩, (hB1.setCell (p := ⟨w.heap.size + 1, 0, none⟩) (by simp) _).setCell (p := ⟨w.heap.size + 1 + 1, 0, none⟩) (by simp; omega) _⟩
      · have FN := Lib.hid (HN.out (by rw [Int.max_eq_right k1]; exact k2))
        gi_wp2
        exact ⟨KeepsFrom.refl _ _, KpS.refl _ _ _, ⟨⟨c11, c21⟩, cq1, FN.out⟩, hB1, hB2⟩
    · have k1 : (144002880 + m - yo : Int) ≤ 144002880 + m - yo := Int.le_refl _
      by_cases k2 : 144002880 + m - yo < ye
      · have FF := Lib.hid (HF.out (by rw [Int.max_eq_right k1]; exact k2))
        rw [Int.max_eq_right k1] at FF
        gi_wp2
        exact ⟨((KeepsOthers.setCell _ _ _).trans (KeepsOthers.setCell _ _ _)).from _, ⟨_, ⟨(c11.set _).other (by omega) _, (c21.other (by omega) _).set _⟩, rfl, FF.out⟩, (hB1.setCell (p := ⟨w.heap.size + 1, 0, none⟩) (by simp) _).setCell (p := ⟨w.heap.size + 1 + 1, 0, none⟩) (by simp; omega) _⟩
      · have FN := Lib.hid (HN.out (by rw [Int.max_eq_right k1]; exact k2))
        gi_wp2
        exact ⟨KeepsFrom.refl _ _, KpS.refl _ _ _, ⟨⟨c11, c21⟩, cq1, FN.out⟩, hB1, hB2⟩
    · have k1' : 144002880 + m - yo ≤ yf := by omega
      by_cases k2 : yf < ye
      · have FF := Lib.hid (HF.out (by rw [Int.max_eq_left k1']; exact k2))
        rw [Int.max_eq_left k1'] at FF
        gi_wp2
        exact ⟨((KeepsOthers.setCell _ _ _).trans (KeepsOthers.setCell _ _ _)).from _, ⟨_, ⟨(c11.set _).other (by omega) _, (c21.other (by omega) _).set _⟩, rfl, FF.out⟩, (hB1.setCell (p := ⟨w.heap.size + 1, 0, none⟩) (by simp) _).setCell (p := ⟨w.heap.size + 1 + 1, 0, none⟩) (by simp; omega) _⟩
      · have FN := Lib.hid (HN.out (by rw [Int.max_eq_left k1']; exact k2))
        gi_wp2
        exact ⟨KeepsFrom.refl _ _, KpS.refl _ _ _, ⟨⟨c11, c21⟩, cq1, FN.out⟩, hB1, hB2⟩
  case done =>
    rintro D ys W hD hys ⟨⟨⟨c11, c21⟩, cq1, hno⟩, hB1, hB2⟩ hK
    have he := HR.out _ (hno.done hys)
    unfold Cl.ofI at he
    dsimp only at he
    have h1 := c11.cell
    have f1 := c11.frozen
    have h2 := c21.cell
    have f2 := c21.frozen
    have HE := Lib.hid he
    clear he hys
    gi_wp2
    have hK' := ((KeepsOthers.setCell W ⟨w.heap.size + 1, 0, none⟩ (.int .i64 0)).trans (KeepsOthers.setCell _ ⟨w.heap.size + 1 + 1, 0, none⟩ (.int .i64 10))).same D _ hK rfl
    refine ⟨by simp, .inl ⟨_, _, rfl, run_takeDeferred hK', ?_⟩⟩
    have q1 := cell_kept (((c11.set (.int .i64 0)).other (B' := w.heap.size + 1 + 1) (by omega) (.int .i64 10)).cell) (grownBy_putObj' _ D (.deferred none)) (fun r e => by cases e; exact ⟨_, hK', rfl⟩)
    have q2 := cell_kept (((c21.other (B' := w.heap.size + 1) (by omega) (.int .i64 0)).set (.int .i64 10)).cell) (grownBy_putObj' _ D (.deferred none)) (fun r e => by cases e; exact ⟨_, hK', rfl⟩)
    refine ⟨.tuple #[.int .i64 0, .int .i64 10], ?_, by rw [HE.out], ((hB1.setCell (p := ⟨w.heap.size + 1, 0, none⟩) (by simp) _).setCell (p := ⟨w.heap.size + 1 + 1, 0, none⟩) (by simp; omega) _).trans (belowK_b (w := w) (Nat.le_refl _) _ D _ _ (by omega) hK' rfl rfl)⟩
    simp [results, Tryd.f15, go_sem, q1, q2]
  case stop =>
    rintro D cd pre W hD hpre ⟨⟨t, ⟨c11, c21⟩, rfl, hf⟩, hB1⟩ hK
    have he := HR.out _ (hf.stop hpre)
    unfold Cl.ofI at he
    dsimp only at he
    have HE := Lib.hid he
    clear he hf hpre
    gi_wp2
    refine ⟨by simp, .inl ⟨_, _, rfl, run_takeDeferred hK, ?_⟩⟩
    have q1 := cell_kept c11.cell (grownBy_putObj' _ D (.deferred none)) (fun r e => by cases e; exact ⟨_, hK, rfl⟩)
    have q2 := cell_kept c21.cell (grownBy_putObj' _ D (.deferred none)) (fun r e => by cases e; exact ⟨_, hK, rfl⟩)
    refine ⟨.tuple #[.int .i64 t, .int .i64 0], ?_, by rw [HE.out], hB1.trans (belowK_b (w := w) (Nat.le_refl _) W D _ _ (by omega) hK rfl rfl)⟩
    simp [results, Tryd.f15, go_sem, q1, q2]

set_option maxHeartbeats 2000000 in
theorem instant_high (A : Option Addr) (c : Nat) (zs : List Cl.Sh) (d m : Int) (w : World) (hz : Zn w w.heap.size A zs) (hv : Cl.vz zs = true) (hm0 : 0 ≤ m) (hm1 : m < 1440) (hd : 100002 < d) (e : Int × Int) (he : ∀ r, Cl.inst (Cl.sp zs) (144002880 + m) = r → e = Cl.ofI r) :
    Calls Tryd.prog 15 #[.agg #[.slice A zs.length c], .int .i64 (d), .int .i64 m] w fun en w' => en = .returned (.tuple #[.int .i64 e.1, .int .i64 e.2]) ∧ Below w.heap.size w w' := by
  have hb0 := Cl.al3 w (.cells #[.slice A zs.length c] 24) (.cells #[.int .i64 0] 3) (.cells #[.int .i64 0] 27)
  have HV := Lib.hid (callsIn_wide (n := 4) |>.2 (valid_any A c zs _ (hz.bt hb0)))
  have HD := Lib.hid (fun w' => callsIn_wide (n := 4) |>.2 (spans_made A zs.length c w'))
  rw [hv] at HV
  have g := Cl.good_of zs hv
  have hfew := g.few
  have HOFF := Lib.hid g.off
  have HR := Lib.hid he
  have HZ := Lib.hid hz
  have bz := ((Boxed.new w 24 (.slice A zs.length c)).alloc (.cells #[.int .i64 0] 3)).alloc (.cells #[.int .i64 0] 27)
  have b1 := (Boxed.new (w.alloc (.cells #[.slice A zs.length c] 24)) 3 (.int .i64 0)).alloc (.cells #[.int .i64 0] 27)
  have b2 := Boxed.new ((w.alloc (.cells #[.slice A zs.length c] 24)).alloc (.cells #[.int .i64 0] 3)) 27 (.int .i64 0)
  simp only [World.size_alloc] at b1 b2
  have hsz0 : (((w.alloc (.cells #[.slice A zs.length c] 24)).alloc (.cells #[.int .i64 0] 3)).alloc (.cells #[.int .i64 0] 27)).heap.size = w.heap.size + 3 := by simp
  have HB := Lib.hid (And.intro bz (And.intro b1 b2))
  have g0 : decide (m < 0) = false := decide_eq_false (by omega)
  have g1 : decide (1440 ≤ m) = false := decide_eq_false (by omega)
  clear bz b1 b2 he hv g hz
  refine (callsIn_wide (n := 5)).1 ?_
  refine callsIn_of_wp_marks Tryd.func15 rfl trivial ?_ rfl
  simp only [Tryd.ntmps15, List.size_toArray, List.length_cons, List.length_nil, Nat.reduceAdd, Nat.reduceSub, Array.replicate_succ, Array.replicate_zero, List.push_toArray, List.append_toArray, List.nil_append, List.cons_append]
  gi_wp2_with (first
    | (refine ⟨trivial, ?_⟩; gi_at_call 22; refine HV.out.mono ?_; clear HV; rintro e w1 ⟨rfl, hb1⟩; obtain ⟨bz1, b11, b21⟩ := HB.out; have bz2 := (Cl.boxed_bt bz1 hb1).cell; have bz3 := Cl.cell_bt bz2 (Cl.al w1 (.cells #[.int .i64 (144002880 + m)] 3)))
    | (refine ⟨trivial, ?_⟩; gi_at_call 30; refine (HD.out _).mono ?_; rintro e w' ⟨rfl, rfl⟩))
  have c1 := ((Cl.boxed_bt b11 hb1).alloc (.cells #[.int .i64 (144002880 + m)] 3)).alloc (.cells #[.slice A zs.length c] 24)
  have c2 := ((Cl.boxed_bt b21 hb1).alloc (.cells #[.int .i64 (144002880 + m)] 3)).alloc (.cells #[.slice A zs.length c] 24)
  have cq := (Boxed.new w1 3 (.int .i64 (144002880 + m))).alloc (.cells #[.slice A zs.length c] 24)
  have cz := Boxed.new (w1.alloc (.cells #[.int .i64 (144002880 + m)] 3)) 24 (.slice A zs.length c)
  simp only [World.size_alloc] at cz
  have hw1 := hb1.size
  rw [hsz0] at hw1
  have hB0 : Below w.heap.size w ((w1.alloc (.cells #[.int .i64 (144002880 + m)] 3)).alloc (.cells #[.slice A zs.length c] 24)) := ((Cl.Nb hb0 hb1).alloc (by omega) _).alloc (by simp; omega) _
  have hsz : ((w1.alloc (.cells #[.int .i64 (144002880 + m)] 3)).alloc (.cells #[.slice A zs.length c] 24)).heap.size = w1.heap.size + 2 := by simp
  obtain ⟨W0, hW0⟩ : ∃ W0, ((w1.alloc (.cells #[.int .i64 (144002880 + m)] 3)).alloc (.cells #[.slice A zs.length c] 24)) = W0 := ⟨_, rfl⟩
  rw [hW0] at c1 c2 cq cz hB0 hsz ⊢
  clear hW0 hb1 hb0 bz1 b11 b21 bz2 bz3 HB hsz0
  refine wpIn_rangeFunc_ownH (α := SpP POff) rfl (by decide) (gf := 37) (lb := #[.pointer (some ⟨w1.heap.size + 1, 0, none⟩)]) rfl trivial (enters_of Tryd.func37 (by kernel_rfl) rfl)
    (spans1_stops POff 4 (by decide) (w1.heap.size + 1) w.heap.size A c zs (by omega) HOFF.out W0 (by omega) (by omega) cz.cell (HZ.out.below hB0 (Nat.le_refl _))) KpS.trans (kpS_b (by omega) (by omega)) (Below.refl _ _) (fun _ => rfl)
    (fun pre W => ((Boxed W (w.heap.size + 1) 3 (.int .i64 0) ∧ Boxed W (w.heap.size + 1 + 1) 27 (.int .i64 0)) ∧ (Boxed W w1.heap.size 3 (.int .i64 (144002880 + m)) ∧ NoIn pre (144002880 + m))) ∧ (Below w.heap.size w W ∧ w1.heap.size + 2 ≤ W.heap.size))
    (fun cd pre W => (∃ t, (Boxed W (w.heap.size + 1) 3 (.int .i64 t) ∧ Boxed W (w.heap.size + 1 + 1) 27 (.int .i64 0)) ∧ (cd = .ret ∧ Found pre (144002880 + m) t)) ∧ Below w.heap.size w W)
    (OwnFrom.and (OwnFrom.and (OwnFrom.and (Own.from (boxed_own _ _ _) _) (Own.from (boxed_own _ _ _) _)) (OwnFrom.and (Own.from (boxed_own _ _ _) _) (ownFrom_pureC _ _))) (OwnFrom.and (ownFrom_below (Nat.le_refl _) (by omega)) (fun _ _ _ _ h hg _ => Nat.le_trans h hg.size)))
    (fun cd => OwnFrom.and (fun s X Y row hs hg hr => by
      obtain ⟨t, ⟨h1, h2⟩, h3⟩ := hs
      exact ⟨t, ⟨(Own.from (boxed_own (β := Unit) _ _ (fun _ => .int .i64 t)) _) () X Y row h1 hg hr, (Own.from (boxed_own (β := Unit) _ _ (fun _ => .int .i64 0)) _) () X Y row h2 hg hr⟩, h3⟩) (ownFrom_below (Nat.le_refl _) (by omega)))
    ⟨⟨⟨c1, c2⟩, cq, NoIn.nil⟩, hB0, by omega⟩
    (fun x a' W => ∃ Bx, w1.heap.size + 2 ≤ Bx ∧ Bx3 W Bx x.1 ∧ a' = { tmps := #[.agg #[.slice A zs.length c], .int .i64 (100002), .int .i64 (m), .pointer (some ⟨w.heap.size, 0, none⟩), undef, undef, .pointer (some ⟨w.heap.size + 1, 0, none⟩), .pointer (some ⟨w.heap.size + 1 + 1, 0, none⟩), .pointer (some ⟨w1.heap.size, 0, none⟩), .pointer (some ⟨Bx, 0, none⟩), undef, .agg #[.slice A zs.length c], .bool true, .bool false, .bool false, .int .i64 (m), .bool false, .bool false, .bool false, .int .i64 (m), .bool false, .bool false, .int .i64 (d), .int .i64 (100002), .int .i64 (100002), .int .i64 (100002), .int .i64 (144002880), .int .i64 (m), .int .i64 (144002880 + m), .agg #[.slice A zs.length c], .func (.func 37) #[] #[.pointer (some ⟨w1.heap.size + 1, 0, none⟩)], .agg #[.int .i64 x.1.1, .int .i64 x.1.2.1, .int .i64 x.1.2.2], undef, undef, undef, undef, undef, undef, undef, undef, undef, undef, undef, undef, undef, undef], defers := [] })
    (fun x a' _ X Y row hs hg hr => by obtain ⟨Bx, h1, h2, h3⟩ := hs; exact ⟨Bx, h1, bx3_own Bx x.1 () X Y row h2 hg (fun r e => (hr r e).2), h3⟩)
    ?assign ?body ?done ?stop
  case assign =>
    rintro l pre x W K ⟨⟨⟨c11, c21⟩, cq1, hno⟩, hB1, hB2⟩ hK
    gi_wp2
    exact hK _ _ ((KeepsOthers.alloc _ _).from _) ((KpS.refl _ _ W).alloc (by omega) (by omega) _) ⟨⟨⟨c11.alloc _, c21.alloc _⟩, cq1.alloc _, hno⟩, hB1.alloc hB1.size _, by rw [World.size_alloc]; omega⟩ ⟨W.heap.size, hB2, Bx3.new W x.1, rfl⟩
  case body =>
    rintro l pre x a' W hl ⟨r, hr⟩ ⟨⟨⟨c11, c21⟩, cq1, hno⟩, hB1, hB2⟩ ⟨Bx, hBx, bX, rfl⟩ hlt
    obtain ⟨x0, x1, x2⟩ := bX.cells
    have hpo := x.2
    have HN := Lib.hid (fun h => NoIn.snoc (q := 144002880 + m) hno (x := x) h)
    have HF := Lib.hid (fun (h : max x.1.1 (144002880 + m - x.1.2.1) < x.1.2.2) => (⟨pre, x, rfl, hno, h, rfl⟩ : Found (pre ++ [x]) (144002880 + m) (max x.1.1 (144002880 + m - x.1.2.1))))
    obtain ⟨y, hy⟩ : ∃ y : Cl.Sp, y = x.1 := ⟨_, rfl⟩
    rw [← hy] at x0 x1 x2 HN HF hpo
    obtain ⟨p1, p2⟩ := hpo
    obtain ⟨yf, yo, ye⟩ := y
    dsimp only at x0 x1 x2 HN HF p1 p2
    have hq1 := cq1.cell
    have h1 := c11.cell
    have f1 := c11.frozen
    have h2 := c21.cell
    have f2 := c21.frozen
    clear hy hno
    rcases Int.lt_trichotomy yf (144002880 + m - yo) with k0 | rfl | k0
    · have k1 : yf ≤ 144002880 + m - yo := by omega
      by_cases k2 : 144002880 + m - yo < ye
      · have FF := Lib.hid (HF.out (by rw [Int.max_eq_right k1]; exact k2))
        rw [Int.max_eq_right k1] at FF
        gi_wp2
        exact ⟨((KeepsOthers.setCell _ _ _).trans (KeepsOthers.setCell _ _ _)).from _, ⟨_, ⟨(c11.set _).other (by omega) _, (c21.other (by omega) _).set _⟩, rfl, FF.out⟩, (hB1.setCell (p := ⟨w.heap.size + 1, 0, none⟩) (by simp) _).setCell (p := ⟨w.heap.size + 1 + 1, 0, none⟩) (by simp; omega) _⟩
      · have FN := Lib.hid (HN.out (by rw [Int.max_eq_right k1]; exact k2))
        gi_wp2
        exact ⟨KeepsFrom.refl _ _, KpS.refl _ _ _, ⟨⟨c11, c21⟩, cq1, FN.out⟩, hB1, hB2⟩
    · have k1 : (144002880 + m - yo : Int) ≤ 144002880 + m - yo := Int.le_refl _
      by_cases k2 : 144002880 + m - yo < ye
      · have FF := Lib.hid (HF.out (by rw [Int.max_eq_right k1]; exact k2))
        rw [Int.max_eq_right k1] at FF
        gi_wp2
        exact ⟨((KeepsOthers.setCell _ _ _).trans (KeepsOthers.setCell _ _ _)).from _, ⟨_, ⟨(c11.set _).other (by omega) _, (c21.other (by omega) _).set _⟩, rfl, FF.out⟩, (hB1.setCell (p := ⟨w.heap.size + 1, 0, none⟩) (by simp) _).setCell (p := ⟨w.heap.size + 1 + 1, 0, none⟩) (by simp; omega) _⟩
      · have FN := Lib.hid (HN.out (by rw [Int.max_eq_right k1]; exact k2))
        gi_wp2
        exact ⟨KeepsFrom.refl _ _, KpS.refl _ _ _, ⟨⟨c11, c21⟩, cq1, FN.out⟩, hB1, hB2⟩
    · have k1' : 144002880 + m - yo ≤ yf := by omega
      by_cases k2 : yf < ye
      · have FF := Lib.hid (HF.out (by rw [Int.max_eq_left k1']; exact k2))
        rw [Int.max_eq_left k1'] at FF
        gi_wp2
        exact ⟨((KeepsOthers.setCell _ _ _).trans (KeepsOthers.setCell _ _ _)).from _, ⟨_, ⟨(c11.set _).other (by omega) _, (c21.other (by omega) _).set _⟩, rfl, FF.out⟩, (hB1.setCell (p := ⟨w.heap.size + 1, 0, none⟩) (by simp) _).setCell (p := ⟨w.heap.size + 1 + 1, 0, none⟩) (by simp; omega) _⟩
      · have FN := Lib.hid (HN.out (by rw [Int.max_eq_left k1']; exact k2))
        gi_wp2
        exact ⟨KeepsFrom.refl _ _, KpS.refl _ _ _, ⟨⟨c11, c21⟩, cq1, FN.out⟩, hB1, hB2⟩
  case done =>
    rintro D ys W hD hys ⟨⟨⟨c11, c21⟩, cq1, hno⟩, hB1, hB2⟩ hK
    have he := HR.out _ (hno.done hys)
    unfold Cl.ofI at he
    dsimp only at he
    have h1 := c11.cell
    have f1 := c11.frozen
    have h2 := c21.cell
    have f2 := c21.frozen
    have HE := Lib.hid he
    clear he hys
    gi_wp2
    have hK' := ((KeepsOthers.setCell W ⟨w.heap.size + 1, 0, none⟩ (.int .i64 0)).trans (KeepsOthers.setCell _ ⟨w.heap.size + 1 + 1, 0, none⟩ (.int .i64 10))).same D _ hK rfl
    refine ⟨by simp, .inl ⟨_, _, rfl, run_takeDeferred hK', ?_⟩⟩
    have q1 := cell_kept (((c11.set (.int .i64 0)).other (B' := w.heap.size + 1 + 1) (by omega) (.int .i64 10)).cell) (grownBy_putObj' _ D (.deferred none)) (fun r e => by cases e; exact ⟨_, hK', rfl⟩)
    have q2 := cell_kept (((c21.other (B' := w.heap.size + 1) (by omega) (.int .i64 0)).set (.int .i64 10)).cell) (grownBy_putObj' _ D (.deferred none)) (fun r e => by cases e; exact ⟨_, hK', rfl⟩)
    refine ⟨.tuple #[.int .i64 0, .int .i64 10], ?_, by rw [HE.out], ((hB1.setCell (p := ⟨w.heap.size + 1, 0, none⟩) (by simp) _).setCell (p := ⟨w.heap.size + 1 + 1, 0, none⟩) (by simp; omega) _).trans (belowK_b (w := w) (Nat.le_refl _) _ D _ _ (by omega) hK' rfl rfl)⟩
    simp [results, Tryd.f15, go_sem, q1, q2]
  case stop =>
    rintro D cd pre W hD hpre ⟨⟨t, ⟨c11, c21⟩, rfl, hf⟩, hB1⟩ hK
    have he := HR.out _ (hf.stop hpre)
    unfold Cl.ofI at he
    dsimp only at he
    have HE := Lib.hid he
    clear he hf hpre
    gi_wp2
    refine ⟨by simp, .inl ⟨_, _, rfl, run_takeDeferred hK, ?_⟩⟩
    have q1 := cell_kept c11.cell (grownBy_putObj' _ D (.deferred none)) (fun r e => by cases e; exact ⟨_, hK, rfl⟩)
    have q2 := cell_kept c21.cell (grownBy_putObj' _ D (.deferred none)) (fun r e => by cases e; exact ⟨_, hK, rfl⟩)
    refine ⟨.tuple #[.int .i64 t, .int .i64 0], ?_, by rw [HE.out], hB1.trans (belowK_b (w := w) (Nat.le_refl _) W D _ _ (by omega) hK rfl rfl)⟩
    simp [results, Tryd.f15, go_sem, q1, q2]

def clampIs (d x : Int) : Prop := max (-2) (min d 100002) = x
/-- Instant at every zone, day and minute. -/
theorem instant_any (A : Option Addr) (c : Nat) (zs : List Cl.Sh) (d m : Int) (w : World) (hz : Zn w w.heap.size A zs) :
    Calls Tryd.prog 15 #[.agg #[.slice A zs.length c], .int .i64 d, .int .i64 m] w fun e w' => e = .returned (.tuple #[.int .i64 (Cl.instF zs d m).1, .int .i64 (Cl.instF zs d m).2]) ∧ Below w.heap.size w w' := by
  by_cases h : (Cl.vz zs && (decide (0 ≤ m) && decide (m < 1440))) = true
  · have h' := h
    simp only [Bool.and_eq_true, decide_eq_true_eq] at h'
    obtain ⟨hv, h0, h1⟩ := h'
    have hi := Cl.instF_ok (d := d) hv h0 h1
    have hw : ∀ x : Int, clampIs d x → Cl.want d m = x * 1440 + m := fun x hx => by unfold Cl.want Cl.clamp; unfold clampIs at hx; rw [hx]
    rcases Int.lt_trichotomy d (-2) with k | rfl | k
    · exact instant_low A c zs d m w hz hv h0 h1 k _ (fun r hr => by rw [hi, ← hr, hw (-2) (by unfold clampIs; omega)]; rfl)
    · exact instant_m2 A c zs m w hz hv h0 h1 _ (fun r hr => by rw [hi, ← hr, hw (-2) (by unfold clampIs; omega)]; rfl)
    · rcases Int.lt_trichotomy d 100002 with k2 | rfl | k2
      · exact instant_mid A c zs d m w hz hv h0 h1 k k2 _ (fun r hr => by rw [hi, ← hr, hw d (by unfold clampIs; omega)])
      · exact instant_x2 A c zs m w hz hv h0 h1 _ (fun r hr => by rw [hi, ← hr, hw 100002 (by unfold clampIs; omega)]; rfl)
      · exact instant_high A c zs d m w hz hv h0 h1 k2 _ (fun r hr => by rw [hi, ← hr, hw 100002 (by unfold clampIs; omega)]; rfl)
  · have he : Cl.instF zs d m = (0, 1) := by unfold Cl.instF; rw [if_neg h]
    rw [he]
    exact instant_bad A c zs d m w hz h
end Go.Proofs.YtkkgefefbamcpaaDoor
