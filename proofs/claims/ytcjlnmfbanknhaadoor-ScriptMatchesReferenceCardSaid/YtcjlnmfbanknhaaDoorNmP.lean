/- Layer 9: the program's split: the words of a text. -/
import Derived.Test.YtcjlnmfbanknhaaDoorNmD
import Derived.Test.YtcjlnmfbanknhaaDoorNmJ
import Derived.ControlIn
import Derived.Scope
import Derived.Deep.RegionHeld3
import Derived.Maps.AppendAt
set_option linter.unusedSimpArgs false
set_option linter.unusedVariables false
namespace Go.Proofs.YtcjlnmfbanknhaaDoor
open Go.RowKit Go.Shelf
set_option maxRecDepth 100000
set_option maxHeartbeats 1000000
attribute [local go_sem] Oper.semAt_some
attribute [-go_sem] Builtin.append_

/-- Blocks for deferred calls lie as they lay. -/
def Nm.Dk (W W' : World) : Prop := ∀ (D : Nat) (o : Option (List Deferred)), W.heap[D]? = some (.deferred o) → W'.heap[D]? = some (.deferred o)
theorem Nm.Dk.refl (W : World) : Nm.Dk W W := fun _ _ h => h
theorem Nm.Dk.trans {X Y Z : World} (h : Nm.Dk X Y) (k : Nm.Dk Y Z) : Nm.Dk X Z := fun D o hd => k D o (h D o hd)
theorem Nm.Dk.below {W W' : World} (h : Below W.heap.size W W') : Nm.Dk W W' := fun D o hd => (h.block D (Array.getElem?_eq_some_iff.1 hd).1).trans hd
theorem Nm.Dk.others {W W' : World} (h : KeepsOthers W W') : Nm.Dk W W' := fun D o hd => h.same D _ hd rfl
theorem Nm.Dk.own {W0 : World} {β : Type} {B : Nat} (hB : W0.heap.size ≤ B) : OwnFrom B (fun (_ : β) W => Nm.Dk W0 W) := fun _ X Y row hs hg hr D o hd =>
  (hg.block D (Array.getElem?_eq_some_iff.1 (hs D o hd)).1 (fun e => by have := (hr D e.symm).1; have := (Array.getElem?_eq_some_iff.1 hd).1; omega)).trans (hs D o hd)
/-- The marks that loops over a function have left. -/
def Nm.Marks (B : Nat) (W : World) : Nat → List Deferred → Prop
  | _, [] => True
  | U, d :: ds => ∃ D, d = { target := .collected D, args := #[] } ∧ B ≤ D ∧ D < U ∧ W.heap[D]? = some (.deferred (some [])) ∧ Nm.Marks B W D ds
theorem Nm.Marks.dk {B : Nat} {W W' : World} (h : Nm.Dk W W') : ∀ {U : Nat} {ds : List Deferred}, Nm.Marks B W U ds → Nm.Marks B W' U ds
  | _, [], _ => trivial
  | _, _ :: _, ⟨D, h1, h2, h3, h4, h5⟩ => ⟨D, h1, h2, h3, h _ _ h4, h5.dk h⟩
theorem Nm.Marks.up {B : Nat} {W : World} {U U' : Nat} (hU : U ≤ U') : ∀ {ds : List Deferred}, Nm.Marks B W U ds → Nm.Marks B W U' ds
  | [], _ => trivial
  | _ :: _, ⟨D, h1, h2, h3, h4, h5⟩ => ⟨D, h1, h2, Nat.lt_of_lt_of_le h3 hU, h4, h5⟩
theorem Nm.Marks.put {B D U : Nat} {W : World} (o : Obj) (hU : U ≤ D) : ∀ {U' : Nat} {ds : List Deferred}, U' ≤ U → Nm.Marks B W U' ds → Nm.Marks B (W.putObj D o) U' ds
  | _, [], _, _ => trivial
  | _, _ :: _, hu, ⟨E, h1, h2, h3, h4, h5⟩ => ⟨E, h1, h2, h3, (World.putObj_heap_other (by omega)).trans h4, h5.put o hU (by omega)⟩
/-- The function is left: the marks are taken up, one by one. -/
theorem Nm.leaves {F : Fence} {n : Nat} {P : Program} {fn : Func} {tmps : Array Value} {R : Ending → World → Prop} (Q : World → Prop) (B : Nat)
    (hQ : ∀ W D o, Q W → B ≤ D → W.heap[D]? = some (.deferred o) → Q (W.putObj D (.deferred none))) (hR : ∀ W, Q W → LeavesIn F n P fn tmps R [] .returning W) :
    ∀ {ds : List Deferred} {U : Nat} {W : World}, Nm.Marks B W U ds → Q W → LeavesInM F n P fn tmps R ds .returning W
  | [], _, W, _, hq => hR W hq
  | _ :: ds, _, W, ⟨D, rfl, h2, h3, h4, h5⟩, hq => ⟨by simp, .inl ⟨D, _, rfl, run_takeDeferred h4, Nm.leaves Q B hQ hR (h5.put _ (Nat.le_refl _) (Nat.le_refl _)) (hQ _ _ _ hq h2 h4)⟩⟩

/-- The function's frame behind its first rows. -/
theorem Nm.trim (s : Nat) : ∀ l : Nm.T, ∃ j, j ≤ l.length ∧ Lib.trimLeftB l 32 = l.drop j ∧ (∀ ws, Nm.scan s l ws [] 0 = Nm.scan s (l.drop j) ws [] 0) ∧ ∀ u, l.drop j ≠ 32 :: u
  | [] => ⟨0, Nat.le_refl _, rfl, fun _ => rfl, fun u h => by cases h⟩
  | x :: u => by
    by_cases hx : x = 32
    · subst hx
      obtain ⟨j, h1, h2, h3, h4⟩ := Nm.trim s u
      exact ⟨j + 1, by simpa using h1, by unfold Lib.trimLeftB at h2 ⊢; simpa using h2, fun ws => by rw [Nm.scan_blank, Nm.push_nil, List.drop_succ_cons]; exact h3 ws, by rw [List.drop_succ_cons]; exact h4⟩
    · exact ⟨0, Nat.zero_le _, by unfold Lib.trimLeftB; simp [hx], fun _ => rfl, fun v h => by simp at h; exact hx h.1⟩
@[reducible] def Nm.SplA (b : Nat) (wd al fi se text : ByteArray) (ds : List Deferred) (u10 u11 u12 u13 u14 u15 u16 u17 u18 u19 u20 u21 u22 u23 u24 u25 u26 u27 u28 u29 u30 u31 u32 u33 u34 u35 u36 u37 u38 u39 u40 u41 u42 u43 u44 u45 u46 u47 u48 u49 u50 u51 u52 u53 u54 u55 u56 u57 u58 u59 u60 u61 u62 u63 u64 u65 : Value) : Act :=
  { tmps := #[.agg #[.string wd, .string al, .string fi, .string se], .string text, .pointer (some ⟨b, 0, none⟩), undef, .slice none 0 0, .int .i64 0, .int .i64 0, .pointer (some ⟨b + 1, 0, none⟩), .pointer (some ⟨b + 2, 0, none⟩), .pointer (some ⟨b + 3, 0, none⟩), u10, u11, u12, u13, u14, u15, u16, u17, u18, u19, u20, u21, u22, u23, u24, u25, u26, u27, u28, u29, u30, u31, u32, u33, u34, u35, u36, u37, u38, u39, u40, u41, u42, u43, u44, u45, u46, u47, u48, u49, u50, u51, u52, u53, u54, u55, u56, u57, u58, u59, u60, u61, u62, u63, u64, u65], defers := ds }
structure Nm.SI (w : World) (wd al fi se : ByteArray) (k : Nat) (ws : List Nm.T) (fl : Bool) (W : World) : Prop where
  ab : Nm.AlBox W w.heap.size wd al fi se
  box : ∃ v, Boxed W (w.heap.size + 1) 22 v ∧ W.ownsRow (w.heap.size + 4) 9 1 v (ws.map Nm.bt).length ((ws.map Nm.bt).map Value.string) ∧ True
  at' : Boxed W (w.heap.size + 2) 3 (.int .i64 (k : Int))
  full : Boxed W (w.heap.size + 3) 4 (.bool fl)
  below : Below w.heap.size w W
  size : w.heap.size + 4 ≤ W.heap.size
theorem Nm.alBox_own {β : Type} (B : Nat) (wd al fi se : ByteArray) : Own (fun (_ : β) W => Nm.AlBox W B wd al fi se) := fun s X Y row h hg hr => by
  refine (hg.block B (Array.getElem?_eq_some_iff.1 h).1 (fun e => ?_)).trans h
  obtain ⟨o, ho, hc⟩ := hr B e.symm
  rw [show X.heap[B]? = _ from h] at ho
  cases ho
  cases hc
theorem Nm.tot_le : ∀ pre : List Ltr, Nm.tot pre ≤ 2 * pre.length
  | [] => by simp [Nm.tot, Nm.lts]
  | x :: pre => by
    have := Nm.tot_le pre
    have hx := x.2
    unfold Nm.tot Nm.lts at *
    simp only [List.map_cons, List.flatten_cons, List.length_append, List.length_cons, ← Lib.size_eq] at *
    omega
theorem Nm.tot_pos {pre : List Ltr} (h : pre ≠ []) : 1 ≤ Nm.tot pre := by
  match pre, h with
  | x :: pre, _ =>
    have hx := x.2
    unfold Nm.tot Nm.lts
    simp only [List.map_cons, List.flatten_cons, List.length_append, ← Lib.size_eq]
    omega
theorem Nm.row_set2 {w3 : World} {B k b : Nat} {e t : TypeId} {n : Nat} {v u v' : Value} {xs : List Value} (h : w3.ownsRow B e n v k xs) (hb : Boxed w3 b t u) (hte : t ≠ e) : (w3.setCell ⟨b, 0, none⟩ v').ownsRow B e n v k xs :=
  h.kept (grownBy_setCell' w3 b v') (.inr (hb.not_row hte h).symm)
structure Nm.SR (w W2 : World) (wd al fi se : ByteArray) (q cb : Nat) (ws : List Nm.T) (fl : Bool) (pre : List Ltr) (X : World) : Prop where
  ab : Nm.AlBox X w.heap.size wd al fi se
  box : ∃ v, Boxed X (w.heap.size + 1) 22 v ∧ X.ownsRow (w.heap.size + 4) 9 1 v (ws.map Nm.bt).length ((ws.map Nm.bt).map Value.string) ∧ True
  at' : Boxed X (w.heap.size + 2) 3 (.int .i64 ((q + Nm.tot pre : Nat) : Int))
  full : Boxed X (w.heap.size + 3) 4 (.bool fl)
  cnt : Boxed X cb 3 (.int .i64 (pre.length : Int))
  below : Below w.heap.size w X
  size : w.heap.size + 4 ≤ X.heap.size
  dk : Nm.Dk W2 X
  few : pre.length ≤ 12
  six : pre ≠ [] → ws.length ≠ 6
theorem Nm.SR.own (w W2 : World) (wd al fi se : ByteArray) (q cb : Nat) (ws : List Nm.T) (fl : Bool) (B : Nat) (hB : w.heap.size ≤ B) (hB2 : W2.heap.size ≤ B) : OwnFrom B (Nm.SR w W2 wd al fi se q cb ws fl) := fun pre A C row h hg hr =>
  ⟨(Own.from (Nm.alBox_own (β := List Ltr) w.heap.size wd al fi se) B) pre A C row h.ab hg hr,
    (Own.from (holdsRow_own (w.heap.size + 4) (w.heap.size + 1) 22 9 1 (fun _ : List Ltr => (ws.map Nm.bt).length) (fun _ => (ws.map Nm.bt).map Value.string) (fun _ _ => True)) B) pre A C row h.box hg hr,
    (Own.from (boxed_own (β := List Ltr) (w.heap.size + 2) 3 (fun pre => .int .i64 ((q + Nm.tot pre : Nat) : Int))) B) pre A C row h.at' hg hr,
    (Own.from (boxed_own (β := List Ltr) (w.heap.size + 3) 4 (fun _ => .bool fl)) B) pre A C row h.full hg hr,
    (Own.from (boxed_own (β := List Ltr) cb 3 (fun pre => .int .i64 (pre.length : Int))) B) pre A C row h.cnt hg hr,
    ownFrom_below (β := List Ltr) (Nat.le_refl _) hB pre A C row h.below hg hr, Nat.le_trans h.size hg.size, Nm.Dk.own (β := List Ltr) hB2 pre A C row h.dk hg hr, h.few, h.six⟩
def Nm.SplI (w : World) (s : Nat) (wd al fi se text : ByteArray) (a : Act) (W : World) : Prop :=
  ∃ (u10 u11 u12 u13 u14 u15 u16 u17 u18 u19 u20 u21 u22 u23 u24 u25 u26 u27 u28 u29 u30 u31 u32 u33 u34 u35 u36 u37 u38 u39 u40 u41 u42 u43 u44 u45 u46 u47 u48 u49 u50 u51 u52 u53 u54 u55 u56 u57 u58 u59 u60 u61 u62 u63 u64 u65 : Value) (ds : List Deferred) (k : Nat) (ws : List Nm.T), a = Nm.SplA w.heap.size wd al fi se text ds u10 u11 u12 u13 u14 u15 u16 u17 u18 u19 u20 u21 u22 u23 u24 u25 u26 u27 u28 u29 u30 u31 u32 u33 u34 u35 u36 u37 u38 u39 u40 u41 u42 u43 u44 u45 u46 u47 u48 u49 u50 u51 u52 u53 u54 u55 u56 u57 u58 u59 u60 u61 u62 u63 u64 u65 ∧ Nm.SI w wd al fi se k ws false W ∧ Nm.Marks w.heap.size W W.heap.size ds ∧ k ≤ text.size ∧ ws.length ≤ 6 ∧
    Nm.scan s text.data.toList [] [] 0 = Nm.scan s (text.data.toList.drop k) ws [] 0
def Nm.SplF (w : World) (s : Nat) (wd al fi se text : ByteArray) (a : Act) (W : World) : Prop :=
  ∃ (u10 u11 u12 u13 u14 u15 u16 u17 u18 u19 u20 u21 u22 u23 u24 u25 u26 u27 u28 u29 u30 u31 u32 u33 u34 u35 u36 u37 u38 u39 u40 u41 u42 u43 u44 u45 u46 u47 u48 u49 u50 u51 u52 u53 u54 u55 u56 u57 u58 u59 u60 u61 u62 u63 u64 u65 : Value) (ds : List Deferred) (k : Nat) (ws : List Nm.T) (fl : Bool), a = Nm.SplA w.heap.size wd al fi se text ds u10 u11 u12 u13 u14 u15 u16 u17 u18 u19 u20 u21 u22 u23 u24 u25 u26 u27 u28 u29 u30 u31 u32 u33 u34 u35 u36 u37 u38 u39 u40 u41 u42 u43 u44 u45 u46 u47 u48 u49 u50 u51 u52 u53 u54 u55 u56 u57 u58 u59 u60 u61 u62 u63 u64 u65 ∧ Nm.SI w wd al fi se k ws fl W ∧ Nm.Marks w.heap.size W W.heap.size ds ∧ k ≤ text.size ∧
    ((fl = true ∧ Nm.scan s text.data.toList [] [] 0 = ([], 2, text.size - k)) ∨ (fl = false ∧ (k < text.size → Nm.scan s text.data.toList [] [] 0 = ([], 3, text.size - k)) ∧ (k = text.size → Nm.scan s text.data.toList [] [] 0 = Nm.fin ws)))
def Nm.SplM (b n : Nat) (W : World) : Nat := match W.cell? ⟨b + 2, 0, none⟩ with
  | some v => n + 1 - (intOf v).toNat
  | none => 0
def Nm.SPost (w : World) (s : Nat) (text : ByteArray) (e : Ending) (w' : World) : Prop :=
  Below w.heap.size w w' ∧ (((Nm.scan s text.data.toList [] [] 0).2.1 = 0 ∧ ∃ v, e = .returned (.tuple #[v, .int .i64 0, .int .i64 0]) ∧ OwnS w' w.heap.size v ((Nm.scan s text.data.toList [] [] 0).1.map Nm.bt)) ∨
    ((Nm.scan s text.data.toList [] [] 0).2.1 ≠ 0 ∧ e = .returned (.tuple #[.slice none 0 0, .int .i64 (Nm.scan s text.data.toList [] [] 0).2.1, .int .i64 ((text.size - (Nm.scan s text.data.toList [] [] 0).2.2 : Nat) : Int)])))
/-- Leaving: what the marks turn. -/
def Nm.LQ (w : World) (v : Value) (l : List ByteArray) (W : World) : Prop := Below w.heap.size w W ∧ OwnS W w.heap.size v l
theorem Nm.LQ.put {w : World} {v : Value} {l : List ByteArray} (W : World) (D : Nat) (o : Option (List Deferred)) (h : Nm.LQ w v l W) (hD : w.heap.size ≤ D) (hd : W.heap[D]? = some (.deferred o)) : Nm.LQ w v l (W.putObj D (.deferred none)) :=
  ⟨h.1.trans (belowK_b (w := w) (Nat.le_refl _) W D _ _ hD hd rfl rfl), ownsRow_putObj h.2 _ hd rfl⟩

theorem Nm.split_all (s : Nat) (wd al fi se text : ByteArray) (w : World) (hok : Nm.AlOk s al fi se) (hm : text.size ≤ 1000000) :
    Calls Tryd.prog 28 #[.agg #[.string wd, .string al, .string fi, .string se], .string text] w (Nm.SPost w s text) := by
  have HOK := Lib.hid hok
  clear hok
  refine (callsIn_wide (n := 5)).1 ?_
  refine callsIn_of_wp_marks Tryd.func28 rfl trivial ?_ rfl
  simp only [Tryd.ntmps28, List.size_toArray, List.length_cons, List.length_nil, Nat.reduceAdd, Nat.reduceSub, Array.replicate_succ, Array.replicate_zero, List.push_toArray, List.append_toArray, List.nil_append, List.cons_append]
  gi_wp2
  refine wpIn_wide.2 (wp_scope_straight ((wpIn_wide (n := 5)).1 (wpIn_mono (Q := bodyPostM Fence.wide 5 Tryd.prog Tryd.f28 (Nm.SPost w s text)) ?_ (by intro e a w h; cases e <;> first | exact h | exact h.elim))))
  gi_wp2
  rename_i K0 hK0
  refine wpIn_label (hK0 _ _ ?_)
  clear hK0
  have hI0 : Nm.SI w wd al fi se 0 [] false ((((w.alloc (.cells #[.string wd, .string al, .string fi, .string se] 42)).alloc (.cells #[.slice none 0 0] 22)).alloc (.cells #[.int .i64 0] 3)).alloc (.cells #[.bool false] 4)) := by
    have x0 := World.alloc_heap_new w (.cells #[.string wd, .string al, .string fi, .string se] 42)
    obtain ⟨w1, hw1⟩ : ∃ w1, w.alloc (.cells #[.string wd, .string al, .string fi, .string se] 42) = w1 := ⟨_, rfl⟩
    have hs1 : w1.heap.size = w.heap.size + 1 := by rw [← hw1]; simp
    have hb1 : Below w.heap.size w w1 := by rw [← hw1]; exact Nm.al _ _
    rw [hw1] at x0 ⊢
    have x1 := Boxed.new w1 22 (.slice none 0 0)
    have x2 := Boxed.new (w1.alloc (.cells #[.slice none 0 0] 22)) 3 (.int .i64 0)
    have x3 := Boxed.new ((w1.alloc (.cells #[.slice none 0 0] 22)).alloc (.cells #[.int .i64 0] 3)) 4 (.bool false)
    simp only [World.size_alloc, hs1] at x1 x2 x3
    refine ⟨?_, ⟨_, (x1.alloc _).alloc _, World.ownsRow_nil _ _ _ _, trivial⟩, x2.alloc _, x3, ((hb1.alloc (by omega) _).alloc (by simp; omega) _).alloc (by simp; omega) _, by simp; omega⟩
    exact (Below.heap_alloc _ _ _ (by simp; omega)).trans ((Below.heap_alloc _ _ _ (by simp; omega)).trans ((Below.heap_alloc _ _ _ (by omega)).trans x0))
  obtain ⟨W0, hW0⟩ : ∃ W0, ((((w.alloc (.cells #[.string wd, .string al, .string fi, .string se] 42)).alloc (.cells #[.slice none 0 0] 22)).alloc (.cells #[.int .i64 0] 3)).alloc (.cells #[.bool false] 4)) = W0 := ⟨_, rfl⟩
  rw [hW0] at hI0 ⊢
  clear hW0
  refine wpIn_seq ?_
  refine wpIn_mono (Q := fun e a' w' => e = .normal ∧ Nm.SplF w s wd al fi se text a' w') ?loop ?tail
  case tail =>
    rintro e a' W ⟨rfl, u10, u11, u12, u13, u14, u15, u16, u17, u18, u19, u20, u21, u22, u23, u24, u25, u26, u27, u28, u29, u30, u31, u32, u33, u34, u35, u36, u37, u38, u39, u40, u41, u42, u43, u44, u45, u46, u47, u48, u49, u50, u51, u52, u53, u54, u55, u56, u57, u58, u59, u60, u61, u62, u63, u64, u65, ds, k, ws, fl, rfl, hI, hmk, hk, hor⟩
    show Code.wpIn _ _ _ _ _ _ _
    obtain ⟨ab, ⟨v, hv, hrow, _⟩, hat, hfl, hB, hsz⟩ := hI
    have hc1 := hv.cell
    have hc2 := hat.cell
    have hc3 := hfl.cell
    have hk0 : (0 : Int) ≤ (k : Int) := by omega
    have hlq : Nm.LQ w (.slice none 0 0) [] W := ⟨hB, World.ownsRow_nil _ _ _ _⟩
    rcases hor with ⟨rfl, hsc⟩ | ⟨rfl, hbad, hend⟩
    · have HSC := Lib.hid hsc
      clear hsc hat hfl hv hrow ab
      have HLQ := Lib.hid hlq
      have HMK := Lib.hid hmk
      clear hlq hmk
      gi_wp2
      gi_quiet_th (fail)
      gi_wp2
      refine Nm.leaves (Nm.LQ w (.slice none 0 0) []) w.heap.size (fun W D o h1 h2 h3 => h1.put W D o h2 h3) (fun W' hq => ?_) (HMK.out.dk (Nm.Dk.below (Nm.drewN_below W _))) ⟨HLQ.out.1.trans ((Nm.drewN_below W _).mono HLQ.out.1.size), World.ownsRow_nil _ _ _ _⟩
      refine ⟨.tuple #[.slice none 0 0, .int .i64 2, .int .i64 (k : Int)], by simp [results, Tryd.f28, go_sem], hq.1, .inr ?_⟩
      rw [HSC.out]
      exact ⟨by simp, by rw [show text.size - (text.size - k) = k from by omega]⟩
    · have HLQ := Lib.hid hlq
      have HMK := Lib.hid hmk
      by_cases hlt : k < text.size
      · have HSC := Lib.hid (hbad hlt)
        have hd : decide ((k : Int) < (text.size : Int)) = true := decide_eq_true (by omega)
        have hd2 : decide (k < text.size) = true := decide_eq_true hlt
        have hd3 : (k : Int) < (text.size : Int) := by omega
        have hkk : Hid (k ≤ text.size) := Lib.hid hk
        clear hbad hend hat hfl hv hrow ab hlq hmk hk
        gi_wp2
        gi_quiet_th (fail)
        gi_wp2
        refine Nm.leaves (Nm.LQ w (.slice none 0 0) []) w.heap.size (fun W D o h1 h2 h3 => h1.put W D o h2 h3) (fun W' hq => ?_) (HMK.out.dk (Nm.Dk.below (Nm.drewN_below W _))) ⟨HLQ.out.1.trans ((Nm.drewN_below W _).mono HLQ.out.1.size), World.ownsRow_nil _ _ _ _⟩
        refine ⟨.tuple #[.slice none 0 0, .int .i64 3, .int .i64 (k : Int)], by simp [results, Tryd.f28, go_sem], hq.1, .inr ?_⟩
        rw [HSC.out]
        exact ⟨by simp, by rw [show text.size - (text.size - k) = k from by have := hkk.out; omega]⟩
      · obtain rfl : k = text.size := by omega
        have hsc := hend rfl
        have hd : decide ((text.size : Int) < (text.size : Int)) = false := decide_eq_false (by omega)
        have hwl : (ws.map Nm.bt).length = ws.length := List.length_map _
        obtain ⟨A0, c0, rfl, _, _, _⟩ := OwnS.form (B := w.heap.size + 4) hrow
        by_cases hw0 : ws = []
        · subst hw0
          have HSC := Lib.hid hsc
          have hkk : Hid (text.size ≤ text.size) := Lib.hid hk
          clear hbad hend hat hfl hv hrow ab hlq hmk hlt hk hsc hwl
          gi_wp2
          gi_quiet_th (fail)
          gi_wp2
          refine Nm.leaves (Nm.LQ w (.slice none 0 0) []) w.heap.size (fun W D o h1 h2 h3 => h1.put W D o h2 h3) (fun W' hq => ?_) (HMK.out.dk (Nm.Dk.below (Nm.drewN_below W _))) ⟨HLQ.out.1.trans ((Nm.drewN_below W _).mono HLQ.out.1.size), World.ownsRow_nil _ _ _ _⟩
          refine ⟨.tuple #[.slice none 0 0, .int .i64 6, .int .i64 (text.size : Int)], by simp [results, Tryd.f28, go_sem], hq.1, .inr ?_⟩
          rw [HSC.out]
          exact ⟨by decide, rfl⟩
        · have hf := Nm.fin_ne hw0
          rw [hf] at hsc
          have hlen0 : (((ws.map Nm.bt).length : Int) == 0) = false := by
            rw [hwl]
            have := List.length_pos_iff.2 hw0
            simp; omega
          have HSC := Lib.hid hsc
          have HQ2 : Hid (Nm.LQ w (.slice A0 (ws.map Nm.bt).length c0) (ws.map Nm.bt) W) := Lib.hid ⟨hB, Nm.row_mono hrow (by omega)⟩
          clear hbad hend hat hfl hv hrow ab hlq hmk hlt hk hsc hwl hf hw0
          obtain ⟨m, hmm⟩ : ∃ m, (ws.map Nm.bt).length = m := ⟨_, rfl⟩
          rw [hmm] at hc1 hlen0 HQ2
          clear hmm
          gi_wp2
          refine Nm.leaves (Nm.LQ w (.slice A0 m c0) (ws.map Nm.bt)) w.heap.size (fun W D o h1 h2 h3 => h1.put W D o h2 h3) (fun W' hq => ?_) HMK.out HQ2.out
          refine ⟨.tuple #[.slice A0 m c0, .int .i64 0, .int .i64 0], by simp [results, Tryd.f28, go_sem], hq.1, .inl ?_⟩
          rw [HSC.out]
          exact ⟨rfl, _, rfl, hq.2⟩
  case loop =>
    refine wpIn_block ?_
    refine wpIn_loop (Nm.SplI w s wd al fi se text) (fun _ W => Nm.SplM w.heap.size text.size W) ⟨_, _, _, _, _, _, _, _, _, _, _, _, _, _, _, _, _, _, _, _, _, _, _, _, _, _, _, _, _, _, _, _, _, _, _, _, _, _, _, _, _, _, _, _, _, _, _, _, _, _, _, _, _, _, _, _, [], 0, [], rfl, hI0, trivial, by omega, by simp, rfl⟩ ?_
    rintro a W ⟨u10, u11, u12, u13, u14, u15, u16, u17, u18, u19, u20, u21, u22, u23, u24, u25, u26, u27, u28, u29, u30, u31, u32, u33, u34, u35, u36, u37, u38, u39, u40, u41, u42, u43, u44, u45, u46, u47, u48, u49, u50, u51, u52, u53, u54, u55, u56, u57, u58, u59, u60, u61, u62, u63, u64, u65, ds, k, ws, rfl, hI, hmk, hk, hw6, hsc⟩
    obtain ⟨ab, ⟨v, hv, hrow, _⟩, hat, hfl, hB, hsz⟩ := hI
    have hlen := Lib.size_eq text
    obtain ⟨j, hj1, hj2, hj3, hj4⟩ := Nm.trim s (text.data.toList.drop k)
    rw [List.length_drop, ← hlen] at hj1
    obtain ⟨q, hq⟩ : ∃ q, q = k + j := ⟨_, rfl⟩
    rw [List.drop_drop, ← hq] at hj2 hj4
    have hsc2 : Nm.scan s text.data.toList [] [] 0 = Nm.scan s (text.data.toList.drop q) ws [] 0 := by rw [hsc, hj3, List.drop_drop, ← hq]
    have hqk : q ≤ text.size := by omega
    have hkq : k ≤ q := by omega
    have TL := Lib.hid (fun w' => callsIn_wide (n := 4) |>.2 (Tryd.strings_TrimLeft_one (text.extract k text.size) 32 (by decide) w'))
    rw [Nm.extract_drop, hj2] at TL
    obtain ⟨tr, htr⟩ : ∃ tr : ByteArray, (⟨(text.data.toList.drop q).toArray⟩ : ByteArray) = tr := ⟨_, rfl⟩
    have htrs : tr.size = text.size - q := by rw [← htr, bsize, List.length_drop, ← hlen]
    rw [htr] at TL
    have hsub : (text.size : Int) - (tr.size : Int) = (q : Int) := by omega
    have hk0 : (0 : Int) ≤ (k : Int) := by omega
    have hk1 : (k : Int) ≤ (text.size : Int) := by omega
    have hc2 := hat.cell
    have hf2 := hat.frozen
    have HHJ4 := Lib.hid hj4
    have HSC := Lib.hid hsc2
    have HMK := Lib.hid hmk
    have HAB := Lib.hid ab
    have HV := Lib.hid hv
    have HROW := Lib.hid hrow
    have HAT := Lib.hid hat
    have HFL := Lib.hid hfl
    have HB := Lib.hid hB
    have HQ := Lib.hid (And.intro hqk hkq)
    have HM0 : Hid (Nm.SplM w.heap.size text.size W = text.size + 1 - k) := Lib.hid (by unfold Nm.SplM; rw [hat.cell]; simp only [intOf, Int.toNat_natCast])
    have HSZ := Lib.hid hsz
    clear hj1 hj2 hj3 hj4 hq hsc hsc2 hmk ab hv hrow hat hfl hB htr htrs hqk hkq hlen hsz
    gi_wp2_with (refine ⟨trivial, ?_⟩; gi_at_call 41; refine (TL.out _).mono ?_; rintro e w' ⟨rfl, hw'⟩; subst w')
    have ab1 : Nm.AlBox ((W.setCell ⟨w.heap.size + 2, 0, none⟩ (.int .i64 (q : Int))).alloc (.cells #[.int .i64 0] 3)) w.heap.size wd al fi se :=
      (Below.heap_alloc _ _ _ (by simp; have := HSZ.out; omega)).trans ((Below.heap_setCell _ _ _ _ (show w.heap.size ≠ w.heap.size + 2 by omega)).trans HAB.out)
    have bx1 := (HV.out.other (B' := w.heap.size + 2) (by omega) (.int .i64 (q : Int))).alloc (.cells #[.int .i64 0] 3)
    have rw1 := (Nm.row_set (v' := .int .i64 (q : Int)) HROW.out HAT.out (by omega)).alloc (.cells #[.int .i64 0] 3)
    have at1 := (HAT.out.set (.int .i64 (q : Int))).alloc (.cells #[.int .i64 0] 3)
    have fl1 := (HFL.out.other (B' := w.heap.size + 2) (by omega) (.int .i64 (q : Int))).alloc (.cells #[.int .i64 0] 3)
    have cb1 := Boxed.new (W.setCell ⟨w.heap.size + 2, 0, none⟩ (.int .i64 (q : Int))) 3 (.int .i64 0)
    have hszs : (W.setCell ⟨w.heap.size + 2, 0, none⟩ (.int .i64 (q : Int))).heap.size = W.heap.size := by simp
    rw [hszs] at cb1
    have hB1 : Below w.heap.size w ((W.setCell ⟨w.heap.size + 2, 0, none⟩ (.int .i64 (q : Int))).alloc (.cells #[.int .i64 0] 3)) :=
      (HB.out.setCell (p := ⟨w.heap.size + 2, 0, none⟩) (by simp) _).alloc (by rw [hszs]; exact HB.out.size) _
    have hD1 : Nm.Dk W ((W.setCell ⟨w.heap.size + 2, 0, none⟩ (.int .i64 (q : Int))).alloc (.cells #[.int .i64 0] 3)) :=
      (Nm.Dk.others (KeepsOthers.setCell _ _ _)).trans (Nm.Dk.below (Nm.al _ _))
    have hs1 : ((W.setCell ⟨w.heap.size + 2, 0, none⟩ (.int .i64 (q : Int))).alloc (.cells #[.int .i64 0] 3)).heap.size = W.heap.size + 1 := by simp
    obtain ⟨W1, hW1⟩ : ∃ W1, ((W.setCell ⟨w.heap.size + 2, 0, none⟩ (.int .i64 (q : Int))).alloc (.cells #[.int .i64 0] 3)) = W1 := ⟨_, rfl⟩
    rw [hW1] at ab1 bx1 rw1 at1 fl1 cb1 hB1 hD1 hs1 ⊢
    clear hW1 hszs hc2 hf2 HAB HV HROW HAT HFL HB TL
    have LT := Lib.hid (fun v => Nm.letters_made wd al fi se (text.extract q text.size) v)
    have ca0 : W1.cell? ⟨w.heap.size, 0, none⟩ = some (.string wd) := by unfold Nm.AlBox at ab1; simp [World.cell?, ab1]
    have ca1 : W1.cell? ⟨w.heap.size, 1, none⟩ = some (.string al) := by unfold Nm.AlBox at ab1; simp [World.cell?, ab1]
    have ca2 : W1.cell? ⟨w.heap.size, 2, none⟩ = some (.string fi) := by unfold Nm.AlBox at ab1; simp [World.cell?, ab1]
    have ca3 : W1.cell? ⟨w.heap.size, 3, none⟩ = some (.string se) := by unfold Nm.AlBox at ab1; simp [World.cell?, ab1]
    have cat := at1.cell
    have hq0 : (0 : Int) ≤ (q : Int) := by omega
    have hq1 : (q : Int) ≤ (text.size : Int) := by have := HQ.out; omega
    refine wpIn_wide.2 ?_
    go_region_held3 (fun w' => w'.cell? ⟨w.heap.size, 0, none⟩ = some (.string wd) ∧ w'.cell? ⟨w.heap.size, 1, none⟩ = some (.string al) ∧ w'.cell? ⟨w.heap.size, 2, none⟩ = some (.string fi) ∧ w'.cell? ⟨w.heap.size, 3, none⟩ = some (.string se) ∧ w'.cell? ⟨w.heap.size + 2, 0, none⟩ = some (.int .i64 (q : Int))) (go_keep)
      ((go_at_call 20; refine (LT.out _).mono ?_; rintro e w2 ⟨rfl, rfl⟩))
    have ab2 : Nm.AlBox ((W1.alloc (.cells #[.string wd, .string al, .string fi, .string se] 42)).alloc (.cells #[.string (text.extract q text.size)] 9)).drew w.heap.size wd al fi se := (Below.heap_alloc _ _ _ (by simp; have := HSZ.out; omega)).trans ((Below.heap_alloc _ _ _ (by have := HSZ.out; omega)).trans ab1)
    have bx2 : Boxed ((W1.alloc (.cells #[.string wd, .string al, .string fi, .string se] 42)).alloc (.cells #[.string (text.extract q text.size)] 9)).drew _ _ _ := (bx1.alloc _).alloc _
    have rw2 : World.ownsRow ((W1.alloc (.cells #[.string wd, .string al, .string fi, .string se] 42)).alloc (.cells #[.string (text.extract q text.size)] 9)).drew _ _ _ _ _ _ := (rw1.alloc _).alloc _
    have at2 : Boxed ((W1.alloc (.cells #[.string wd, .string al, .string fi, .string se] 42)).alloc (.cells #[.string (text.extract q text.size)] 9)).drew _ _ _ := (at1.alloc _).alloc _
    have fl2 : Boxed ((W1.alloc (.cells #[.string wd, .string al, .string fi, .string se] 42)).alloc (.cells #[.string (text.extract q text.size)] 9)).drew _ _ _ := (fl1.alloc _).alloc _
    have cb2 : Boxed ((W1.alloc (.cells #[.string wd, .string al, .string fi, .string se] 42)).alloc (.cells #[.string (text.extract q text.size)] 9)).drew _ _ _ := (cb1.alloc _).alloc _
    have hB2 : Below w.heap.size w ((W1.alloc (.cells #[.string wd, .string al, .string fi, .string se] 42)).alloc (.cells #[.string (text.extract q text.size)] 9)).drew := ((hB1.alloc hB1.size _).alloc (by have := hB1.size; simp; omega) _).drew
    have hD2 : Nm.Dk W ((W1.alloc (.cells #[.string wd, .string al, .string fi, .string se] 42)).alloc (.cells #[.string (text.extract q text.size)] 9)).drew := hD1.trans (Nm.Dk.below ((((Below.refl _ W1).alloc (Nat.le_refl _) _).alloc (by simp) _).drew))
    have A2 : Nm.AlBox ((W1.alloc (.cells #[.string wd, .string al, .string fi, .string se] 42)).alloc (.cells #[.string (text.extract q text.size)] 9)).drew (W.heap.size + 1) wd al fi se := by
      rw [← hs1]
      exact (Below.heap_alloc _ _ _ (by simp)).trans (World.alloc_heap_new W1 _)
    have T2 : Boxed ((W1.alloc (.cells #[.string wd, .string al, .string fi, .string se] 42)).alloc (.cells #[.string (text.extract q text.size)] 9)).drew (W.heap.size + 1 + 1) 9 (.string (text.extract q text.size)) := by
      have := Boxed.new (W1.alloc (.cells #[.string wd, .string al, .string fi, .string se] 42)) 9 (.string (text.extract q text.size))
      rw [World.size_alloc, hs1] at this
      exact this
    have hs2 : ((W1.alloc (.cells #[.string wd, .string al, .string fi, .string se] 42)).alloc (.cells #[.string (text.extract q text.size)] 9)).drew.heap.size = W.heap.size + 3 := by
      have : ((W1.alloc (.cells #[.string wd, .string al, .string fi, .string se] 42)).alloc (.cells #[.string (text.extract q text.size)] 9)).heap.size = W.heap.size + 3 := by simp [hs1]
      exact this
    obtain ⟨W2, hW2⟩ : ∃ W2, ((W1.alloc (.cells #[.string wd, .string al, .string fi, .string se] 42)).alloc (.cells #[.string (text.extract q text.size)] 9)).drew = W2 := ⟨_, rfl⟩
    rw [hW2] at ab2 bx2 rw2 at2 fl2 cb2 hB2 hD2 A2 T2 hs2 ⊢
    clear hW2 ab1 bx1 rw1 at1 fl1 cb1 hB1 hD1 hs1 ca0 ca1 ca2 ca3 cat LT
    have hex : (text.extract q text.size).size ≤ maxLen := by
      have := Lib.size_eq text
      rw [Lib.size_eq, Nm.extract_drop, List.length_drop, ← this]
      unfold maxLen
      omega
    have HSI : Hid (Nm.SR w W2 wd al fi se q W.heap.size ws false [] W2) := Lib.hid ⟨ab2, ⟨_, bx2, rw2, trivial⟩, at2, fl2, cb2, hB2, by have := HSZ.out; omega, Nm.Dk.refl _, by simp, fun h => absurd rfl h⟩
    have HD2 := Lib.hid hD2
    have HA2 := Lib.hid A2
    have HT2 := Lib.hid T2
    have HEX := Lib.hid hex
    have HS2 := Lib.hid hs2
    have HBS : Hid (w.heap.size ≤ W2.heap.size) := Lib.hid hB2.size
    clear ab2 bx2 rw2 at2 fl2 cb2 hB2 hD2 A2 T2 hs2 hex hsub
    gi_wp2
    refine Nm.wpIn_rangeFunc_good rfl (by decide) (gf := 31) (lb := #[.pointer (some ⟨W.heap.size + 1, 0, none⟩), .pointer (some ⟨W.heap.size + 1 + 1, 0, none⟩)]) rfl trivial (enters_of Tryd.func31 (by kernel_rfl) rfl)
      (Nm.letters1_stops 4 (by decide) s (W.heap.size + 1) (W.heap.size + 1 + 1) w.heap.size wd al fi se (text.extract q text.size) HOK.out HEX.out W2 (by have := HS2.out; omega) (by have := HS2.out; omega) HBS.out HA2.out HT2.out.cell) Nm.Kp.trans (Nm.kp_b HBS.out (by have := HS2.out; omega) (by have := HS2.out; omega)) (Below.refl _ _) (fun _ => rfl)
      (Nm.SR w W2 wd al fi se q W.heap.size ws false) (fun c pre X => c = .exit 0 ∧ pre ≠ [] ∧ Nm.full ws pre.dropLast.length = true ∧ Nm.SR w W2 wd al fi se q W.heap.size ws true pre.dropLast X) (Nm.SR.own w W2 wd al fi se q W.heap.size ws false _ HBS.out (Nat.le_refl _))
      (fun c pre X Y row hs hg hr => ⟨hs.1, hs.2.1, hs.2.2.1, Nm.SR.own w W2 wd al fi se q W.heap.size ws true W2.heap.size HBS.out (Nat.le_refl _) pre.dropLast X Y row hs.2.2.2 hg hr⟩)
      HSI.out
      (fun x => { tmps := #[.agg #[.string wd, .string al, .string fi, .string se], .string text, .pointer (some ⟨w.heap.size, 0, none⟩), undef, .slice none 0 0, .int .i64 0, .int .i64 0, .pointer (some ⟨w.heap.size + 1, 0, none⟩), .pointer (some ⟨w.heap.size + 2, 0, none⟩), .pointer (some ⟨w.heap.size + 3, 0, none⟩), .int .i64 (q : Int), .pointer (some ⟨W.heap.size, 0, none⟩), .string x.1, .string text, .int .i64 text.size, .string text, .int .i64 (k : Int), .string (text.extract k text.size), .string tr, .int .i64 tr.size, .int .i64 (q : Int), .int .i64 (q : Int), .agg #[.string wd, .string al, .string fi, .string se], .string text, .int .i64 (q : Int), .string (text.extract q text.size), .func (.func 31) #[] #[.pointer (some ⟨W.heap.size + 1, 0, none⟩), .pointer (some ⟨W.heap.size + 1 + 1, 0, none⟩)], .string x.1, u28, u29, u30, u31, u32, u33, u34, u35, u36, u37, u38, u39, u40, u41, u42, u43, u44, u45, u46, u47, u48, u49, u50, u51, u52, u53, u54, u55, u56, u57, u58, u59, u60, u61, u62, u63, u64, u65], defers := [] }) ?assign ?body ?done ?stop
    case assign =>
      intro l x X K hK
      gi_wp2
      exact hK
    case body =>
      rintro l pre x X ⟨ab3, ⟨v3, bx3, rw3, _⟩, at3, fl3, cb3, hB3, hsz3, hdk3, hfew, hsix⟩ hgd
      obtain ⟨A0, c0, rfl, _, _, _⟩ := OwnS.form (B := w.heap.size + 4) rw3
      have hc1 := bx3.cell
      have hc2 := at3.cell
      have hc3 := cb3.cell
      have hf2 := at3.frozen
      have hf3 := cb3.frozen
      have hc4 := fl3.cell
      have hf4 := fl3.frozen
      have hS2 := HS2.out
      have hW4 := HSZ.out
      have hx := x.2
      have htl := Nm.tot_le pre
      have hqq := HQ.out
      have hts := Nm.tot_snoc pre x
      have hml : (ws.map Nm.bt).length = ws.length := List.length_map _
      by_cases h6 : ws.length = 6
      · have hm6 : (ws.map Nm.bt).length = 6 := by omega
        have HX : Hid (Nm.SR w W2 wd al fi se q W.heap.size ws true pre (X.setCell ⟨w.heap.size + 3, 0, none⟩ (.bool true))) := Lib.hid
          ⟨(Below.heap_setCell _ _ _ _ (show w.heap.size ≠ w.heap.size + 3 by omega)).trans ab3, ⟨_, bx3.other (by omega) _, Nm.row_set rw3 fl3 (by omega), trivial⟩, at3.other (by omega) _, fl3.set _, cb3.other (by omega) _, hB3.setCell (p := ⟨w.heap.size + 3, 0, none⟩) (by simp) _, by simpa using hsz3, hdk3.trans (Nm.Dk.others (KeepsOthers.setCell _ _ _)), hfew, hsix⟩
        rw [hm6] at hc1
        clear ab3 bx3 rw3 at3 fl3 cb3 hB3 hsz3 hdk3 hml hm6 hS2 hW4 hx htl hqq hts hsix
        gi_wp2
        exact ⟨KeepsOthers.setCell _ _ _, rfl, by simp, by rw [List.dropLast_concat]; simp [Nm.full, h6], by rw [List.dropLast_concat]; exact HX.out⟩
      · have hm6 : (((ws.map Nm.bt).length : Int) == 6) = false := by rw [hml]; simp; omega
        by_cases h12 : pre.length = 12
        · have HX : Hid (Nm.SR w W2 wd al fi se q W.heap.size ws true pre (X.setCell ⟨w.heap.size + 3, 0, none⟩ (.bool true))) := Lib.hid
            ⟨(Below.heap_setCell _ _ _ _ (show w.heap.size ≠ w.heap.size + 3 by omega)).trans ab3, ⟨_, bx3.other (by omega) _, Nm.row_set rw3 fl3 (by omega), trivial⟩, at3.other (by omega) _, fl3.set _, cb3.other (by omega) _, hB3.setCell (p := ⟨w.heap.size + 3, 0, none⟩) (by simp) _, by simpa using hsz3, hdk3.trans (Nm.Dk.others (KeepsOthers.setCell _ _ _)), hfew, hsix⟩
          have hc3' : X.cell? ⟨W.heap.size, 0, none⟩ = some (.int .i64 12) := by rw [hc3, h12]; rfl
          obtain ⟨m, hmm⟩ : ∃ m, (ws.map Nm.bt).length = m := ⟨_, rfl⟩
          rw [hmm] at hc1 hm6
          clear ab3 bx3 rw3 at3 fl3 cb3 hB3 hsz3 hdk3 hml hS2 hW4 hx htl hqq hts hsix hc3 hmm
          gi_wp2
          exact ⟨KeepsOthers.setCell _ _ _, rfl, by simp, by rw [List.dropLast_concat]; simp [Nm.full, h12], by rw [List.dropLast_concat]; exact HX.out⟩
        · have hp12 : ((pre.length : Int) == 12) = false := by simp; omega
          have hsum : ((q + Nm.tot pre : Nat) : Int) + (x.1.size : Int) = ((q + Nm.tot (pre ++ [x]) : Nat) : Int) := by rw [hts]; omega
          have hcnt : (pre.length : Int) + 1 = ((pre ++ [x]).length : Int) := by simp
          have hb1 : q + Nm.tot pre ≤ 2000000 := by omega
          have at4 := at3.set (.int .i64 ((q + Nm.tot (pre ++ [x]) : Nat) : Int))
          have cb4 := (cb3.other (B' := w.heap.size + 2) (by omega) (.int .i64 ((q + Nm.tot (pre ++ [x]) : Nat) : Int)))
          have HX : Hid (Nm.SR w W2 wd al fi se q W.heap.size ws false (pre ++ [x]) ((X.setCell ⟨w.heap.size + 2, 0, none⟩ (.int .i64 ((q + Nm.tot (pre ++ [x]) : Nat) : Int))).setCell ⟨W.heap.size, 0, none⟩ (.int .i64 ((pre ++ [x]).length : Int)))) := Lib.hid
            ⟨(Below.heap_setCell _ _ _ _ (show w.heap.size ≠ W.heap.size by omega)).trans ((Below.heap_setCell _ _ _ _ (show w.heap.size ≠ w.heap.size + 2 by omega)).trans ab3), ⟨_, (bx3.other (by omega) _).other (by omega) _, Nm.row_set2 (Nm.row_set rw3 at3 (by omega)) cb4 (by decide), trivial⟩, at4.other (by omega) _, (fl3.other (by omega) _).other (by omega) _, cb4.set _, (hB3.setCell (p := ⟨w.heap.size + 2, 0, none⟩) (by simp) _).setCell (p := ⟨W.heap.size, 0, none⟩) (by show w.heap.size ≤ W.heap.size; omega) _, by simpa using hsz3, (hdk3.trans (Nm.Dk.others (KeepsOthers.setCell _ _ _))).trans (Nm.Dk.others (KeepsOthers.setCell _ _ _)), by simp; omega, fun _ => h6⟩
          have HK : Hid (Nm.Kp w.heap.size (W.heap.size + 1) (W.heap.size + 1 + 1) X ((X.setCell ⟨w.heap.size + 2, 0, none⟩ (.int .i64 ((q + Nm.tot (pre ++ [x]) : Nat) : Int))).setCell ⟨W.heap.size, 0, none⟩ (.int .i64 ((pre ++ [x]).length : Int)))) := Lib.hid
            ⟨((Below.refl _ X).setCell (p := ⟨w.heap.size + 2, 0, none⟩) (by simp) _).setCell (p := ⟨W.heap.size, 0, none⟩) (by show w.heap.size ≤ W.heap.size; omega) _, (Below.heap_setCell _ _ _ _ (show W.heap.size + 1 ≠ W.heap.size by omega)).trans (Below.heap_setCell _ _ _ _ (show W.heap.size + 1 ≠ w.heap.size + 2 by omega)), (Below.heap_setCell _ _ _ _ (show W.heap.size + 1 + 1 ≠ W.heap.size by omega)).trans (Below.heap_setCell _ _ _ _ (show W.heap.size + 1 + 1 ≠ w.heap.size + 2 by omega))⟩
          have hc5 := cb4.cell
          have hf5 := cb4.frozen
          obtain ⟨m, hmm⟩ : ∃ m, (ws.map Nm.bt).length = m := ⟨_, rfl⟩
          rw [hmm] at hc1 hm6
          obtain ⟨r1, hr1⟩ : ∃ r, q + Nm.tot pre = r := ⟨_, rfl⟩
          obtain ⟨r2, hr2⟩ : ∃ r, q + Nm.tot (pre ++ [x]) = r := ⟨_, rfl⟩
          obtain ⟨p2, hp2⟩ : ∃ r, (pre ++ [x]).length = r := ⟨_, rfl⟩
          obtain ⟨p1, hp1⟩ : ∃ r, pre.length = r := ⟨_, rfl⟩
          obtain ⟨xv, hxv⟩ : ∃ r, x.1 = r := ⟨_, rfl⟩
          rw [hr1] at hc2 hsum hb1
          rw [hr2] at hsum hc5 hf5
          rw [hp1] at hc3 hp12 hcnt hc5
          rw [hp2] at hcnt
          rw [hxv] at hsum hx ⊢
          have HR2 := Lib.hid hr2
          have HP2 := Lib.hid hp2
          have hfe : p1 ≤ 12 := by omega
          clear ab3 bx3 rw3 at3 fl3 cb3 hB3 hsz3 hdk3 hml hS2 hW4 htl hqq hts hsix hmm at4 cb4 hr1 hr2 hp1 hp2 hxv h12 h6 hfew
          gi_wp2
          have h1 := HX.out
          have h2 := HK.out
          rw [HR2.out, HP2.out] at h1 h2
          exact ⟨(KeepsOthers.setCell _ _ _).trans (KeepsOthers.setCell _ _ _), h2, h1⟩
    case done =>
      rintro D ys X hD hys hSR hK
      obtain ⟨ab3, ⟨v3, bx3, rw3, _⟩, at3, fl3, cb3, hB3, hsz3, hdk3, hfew, hsix⟩ := hSR
      rw [Nm.extract_drop] at hys
      have hqq := HQ.out
      have hlen := Lib.size_eq text
      have hDX : D < X.heap.size := (Array.getElem?_eq_some_iff.1 hK).1
      have hmkX : Nm.Marks w.heap.size X X.heap.size ({ target := .collected D, args := #[] } :: ds) :=
        ⟨D, rfl, by have := HBS.out; omega, hDX, hK, ((HMK.out.dk (HD2.out.trans hdk3)).up (by have := HS2.out; omega))⟩
      have hc1 := bx3.cell
      have hc2 := at3.cell
      by_cases hy0 : ys = []
      · subst hy0
        have hq0' : q + Nm.tot [] = q := rfl
        rw [hq0'] at hc2 at3
        have hln : Nm.ln s (text.data.toList.drop q) = 0 := by
          by_cases h : Nm.ln s (text.data.toList.drop q) = 0
          · exact h
          · have h2 := Nm.rd_step h
            have h3 : Nm.lts ([] : List Ltr) = [] := rfl
            rw [h3, h2] at hys
            cases hys
        have hbad : q < text.size → Nm.scan s text.data.toList [] [] 0 = ([], 3, text.size - q) := fun hlt => by
          rw [HSC.out]
          have hl : (text.data.toList.drop q).length = text.size - q := by rw [List.length_drop, ← hlen]
          match hd : text.data.toList.drop q with
          | [] => rw [hd] at hl; simp at hl; omega
          | y :: u =>
            have hy : y ≠ 32 := fun e => HHJ4.out u (by rw [hd, e])
            rw [hd] at hln hl
            rw [Nm.scan_bad _ _ _ hy hln]
            simp at hl
            rw [hl]
        have hend : q = text.size → Nm.scan s text.data.toList [] [] 0 = Nm.fin ws := fun e => by
          rw [HSC.out, List.drop_eq_nil_of_le (by omega), Nm.scan_nil, Nm.push_nil]
        have HF : Hid (Nm.SI w wd al fi se q ws false X ∧ Nm.Marks w.heap.size X X.heap.size ({ target := .collected D, args := #[] } :: ds) ∧ q ≤ text.size ∧ (q < text.size → Nm.scan s text.data.toList [] [] 0 = ([], 3, text.size - q)) ∧ (q = text.size → Nm.scan s text.data.toList [] [] 0 = Nm.fin ws)) :=
          Lib.hid ⟨⟨ab3, ⟨_, bx3, rw3, trivial⟩, at3, fl3, hB3, hsz3⟩, hmkX, hqq.1, hbad, hend⟩
        clear ab3 bx3 rw3 at3 fl3 cb3 hB3 hsz3 hdk3 hmkX hbad hend hln hys hK hlen hqq
        gi_wp2
        exact ⟨trivial, _, _, _, _, _, _, _, _, _, _, _, _, _, _, _, _, _, _, _, _, _, _, _, _, _, _, _, _, _, _, _, _, _, _, _, _, _, _, _, _, _, _, _, _, _, _, _, _, _, _, _, _, _, _, _, _, _, q, ws, false, rfl, HF.out.1, HF.out.2.1, HF.out.2.2.1, .inr ⟨rfl, HF.out.2.2.2⟩⟩
      · have htp := Nm.tot_pos hy0
        have hnl : (Nm.rd s (text.data.toList.drop q)).1 ≠ [] := by
          rw [← hys]
          intro e
          unfold Nm.lts at e
          exact hy0 (List.map_eq_nil_iff.1 e)
        have h12 : (Nm.rd s (text.data.toList.drop q)).1.length ≤ 12 := by rw [← hys, Nm.lts_len]; exact hfew
        have hjn := Nm.rd_join s (text.data.toList.drop q)
        have hsa := Nm.scan_all (s := s) (l := text.data.toList.drop q) (ws := ws) h12 (hsix hy0) hnl
        have htq : q + Nm.tot ys ≤ text.size := by
          have h2 := congrArg List.length hjn
          rw [List.length_append, ← hys, List.length_drop, ← hlen] at h2
          unfold Nm.tot
          omega
        have hrest : (Nm.rd s (text.data.toList.drop q)).2 = text.data.toList.drop (q + Nm.tot ys) := by
          rw [← List.drop_drop]
          unfold Nm.tot
          rw [hys]
          generalize (Nm.rd s (text.data.toList.drop q)).1.flatten = F at *
          generalize (Nm.rd s (text.data.toList.drop q)).2 = R at *
          rw [← hjn]
          simp
        have hpiece : text.extract q (q + Nm.tot ys) = Nm.bt (Nm.lts ys).flatten := by
          refine ByteArray.ext (Array.toList_inj.1 ?_)
          rw [Lib.extract_data, show q + Nm.tot ys - q = Nm.tot ys from by omega, ← hjn, ← hys, show (Nm.bt (Nm.lts ys).flatten).data.toList = (Nm.lts ys).flatten from Nm.bt_list _]
          unfold Nm.tot
          simp
        have hsn : Nm.scan s text.data.toList [] [] 0 = Nm.scan s (text.data.toList.drop (q + Nm.tot ys)) (ws ++ [(Nm.lts ys).flatten]) [] 0 := by
          rw [HSC.out, hsa, hrest, hys]
        have hw5 : ws.length ≤ 5 := by have := hsix hy0; omega
        have hml : (ws.map Nm.bt).length = ws.length := List.length_map _
        obtain ⟨P, hP⟩ : ∃ P, (Nm.lts ys).flatten = P := ⟨_, rfl⟩
        rw [hP] at hpiece hsn
        obtain ⟨r, hr⟩ : ∃ r, q + Nm.tot ys = r := ⟨_, rfl⟩
        rw [hr] at hpiece hsn hc2 at3 htq
        have hqr : q + 1 ≤ r := by omega
        obtain ⟨i0, hi0, hz0, hz1, hz2⟩ := info_parts infoStr
        have hmap : (ws.map Nm.bt).map Value.string ++ [Value.string (Nm.bt P)] = ((ws ++ [P]).map Nm.bt).map Value.string := by simp
        have hmln : (ws.map Nm.bt).length + 1 = ((ws ++ [P]).map Nm.bt).length := by simp
        obtain ⟨v', w', hrun, hown', hgrow, _, _⟩ := run_append_own_at (P := Tryd.prog) (w := X.drew.alloc (.cells #[.string (Nm.bt P)] 9)) (w.heap.size + 4) 22 22 9 i0 (.string ⟨#[]⟩) 1 16 Tryd.underlying22 hi0 hz0 hz1 hz2 rfl (by decide) v3 (ws.map Nm.bt).length ((ws.map Nm.bt).map Value.string)
          ((show World.ownsRow X.drew _ _ _ _ _ _ from rw3).alloc _) ⟨X.heap.size, 0, none⟩ 1 1 [.string (Nm.bt P)] rfl (cell_one_new X.drew _ _) (all_one_str _) (by unfold maxLen; omega) (by omega) (by show w.heap.size + 4 ≤ (X.drew.alloc _).heap.size; simp; omega)
        obtain ⟨A0, c0, rfl, _, _, _⟩ := OwnS.form (B := w.heap.size + 4) rw3
        obtain ⟨g', cap', rfl⟩ := ownsRow_succ hown'
        have hbxd : Boxed X.drew (w.heap.size + 1) 22 (.slice A0 (ws.map Nm.bt).length c0) := bx3
        obtain ⟨hv1, hv2, _, hk2, hb2⟩ := hbxd.appended (by decide) (Nm.row_mono (show World.ownsRow X.drew _ _ _ _ _ _ from rw3) (show w.heap.size ≤ w.heap.size + 4 by omega)) (show w.heap.size ≤ X.heap.size by omega) (by omega) (Nm.row_mono hown' (by omega)) hgrow
        have at5 := ((show Boxed X.drew _ _ _ from at3).alloc (.cells #[.string (Nm.bt P)] 9)).kept hgrow (Nm.row_other rw3 (by omega))
        have fl5 := ((show Boxed X.drew _ _ _ from fl3).alloc (.cells #[.string (Nm.bt P)] 9)).kept hgrow (Nm.row_other rw3 (by omega))
        have at6 := at5.other (B' := w.heap.size + 1) (by omega) (.slice (some ⟨g', 0, none⟩) ((ws.map Nm.bt).length + 1) cap')
        have fl6 := fl5.other (B' := w.heap.size + 1) (by omega) (.slice (some ⟨g', 0, none⟩) ((ws.map Nm.bt).length + 1) cap')
        have rw6 := Nm.row_set (v' := .slice (some ⟨g', 0, none⟩) ((ws.map Nm.bt).length + 1) cap') hown' hv1 (by omega)
        have ab6 : Nm.AlBox (w'.setCell ⟨w.heap.size + 1, 0, none⟩ (.slice (some ⟨g', 0, none⟩) ((ws.map Nm.bt).length + 1) cap')) w.heap.size wd al fi se :=
          (Below.heap_setCell _ _ _ _ (show w.heap.size ≠ w.heap.size + 1 by omega)).trans ((Nm.heap_keep hgrow (show w.heap.size < X.heap.size by omega) (Nm.row_other rw3 (by omega))).trans ab3)
        have hsz6 : w.heap.size + 4 ≤ w'.heap.size := by
          have := hgrow.size
          have h7 : (X.drew.alloc (.cells #[.string (Nm.bt P)] 9)).heap.size = X.heap.size + 1 := World.size_alloc _ _
          omega
        have hdX : Nm.Dk X (w'.setCell ⟨w.heap.size + 1, 0, none⟩ (.slice (some ⟨g', 0, none⟩) ((ws.map Nm.bt).length + 1) cap')) := fun D o hd => (Nm.Dk.others hk2) D o hd
        rw [hmap] at rw6
        have HF : Hid (Nm.SI w wd al fi se r (ws ++ [P]) false (w'.setCell ⟨w.heap.size + 1, 0, none⟩ (.slice (some ⟨g', 0, none⟩) ((ws.map Nm.bt).length + 1) cap')) ∧ Nm.Marks w.heap.size (w'.setCell ⟨w.heap.size + 1, 0, none⟩ (.slice (some ⟨g', 0, none⟩) ((ws.map Nm.bt).length + 1) cap')) w'.heap.size ({ target := .collected D, args := #[] } :: ds) ∧ r ≤ text.size ∧ (ws ++ [P]).length ≤ 6 ∧ Nm.scan s text.data.toList [] [] 0 = Nm.scan s (text.data.toList.drop r) (ws ++ [P]) [] 0) :=
          Lib.hid ⟨⟨ab6, ⟨_, hv2, by rw [← hmln]; exact rw6, trivial⟩, at6, fl6, hB3.drew.trans hb2, by simpa using hsz6⟩, (hmkX.dk hdX).up (by have := hgrow.size; have h7 : (X.drew.alloc (.cells #[.string (Nm.bt P)] 9)).heap.size = X.heap.size + 1 := World.size_alloc _ _; omega), htq, by simp; omega, hsn⟩
        have hc1 := hbxd.cell
        have hc5 := hv1.cell
        have hf5 := hv1.frozen
        have k1 : (X.alloc (.cells #[.string (Nm.bt P)] 9)).drew.cell? ⟨w.heap.size + 1, 0, none⟩ = some (.slice A0 (ws.map Nm.bt).length c0) := (hbxd.alloc _).cell
        have k2 : (X.alloc (.cells #[.string (Nm.bt P)] 9)).drew.cell? ⟨w.heap.size + 2, 0, none⟩ = some (.int .i64 (r : Int)) := ((show Boxed X.drew _ _ _ from at3).alloc _).cell
        have k3 := at5.cell
        have hne : ((r : Int) == (q : Int)) = false := by simp; omega
        have hq0 : (0 : Int) ≤ (q : Int) := by omega
        have hqr2 : (q : Int) ≤ (r : Int) := by omega
        have hrt : (r : Int) ≤ (text.size : Int) := by omega
        have HMU : Hid (text.size + 1 - r < text.size + 1 - k) := Lib.hid (by omega)
        have hc2X : X.cell? ⟨w.heap.size + 2, 0, none⟩ = some (.int .i64 (r : Int)) := hc2
        clear hown' hgrow ab3 bx3 rw3 at3 fl3 cb3 hB3 hsz3 hdk3 hmkX at5 at6 fl5 fl6 rw6 ab6 hdX hv1 hv2 hk2 hb2 hsn htp hnl h12 hjn hsa hrest hys hsix hfew hqq hlen hK hqr htq hw5 hml hP hr hmap hmln hbxd hsz6 hy0
        obtain ⟨m, hmm⟩ : ∃ m, (ws.map Nm.bt).length = m := ⟨_, rfl⟩
        rw [hmm] at hrun hc1 hc5 HF k1
        have hrun2 : Sem.run Tryd.prog _ (X.alloc (.cells #[.string (Nm.bt P)] 9)).drew = _ := hrun
        clear hmm
        gi_wp2
        refine wpIn_wide.2 ?_
        go_region
        gi_wp2
        have hf := HF.out
        refine ⟨⟨_, _, _, _, _, _, _, _, _, _, _, _, _, _, _, _, _, _, _, _, _, _, _, _, _, _, _, _, _, _, _, _, _, _, _, _, _, _, _, _, _, _, _, _, _, _, _, _, _, _, _, _, _, _, _, _, _, r, ws ++ [P], rfl, hf.1, ?_, hf.2.2.1, hf.2.2.2.1, hf.2.2.2.2⟩, ?_⟩
        · have := hf.2.1
          simpa using this
        · rw [HM0.out]
          have h1 := hf.1.at'.cell
          unfold Nm.SplM
          rw [h1]
          simp only [intOf, Int.toNat_natCast]
          exact HMU.out
    case stop =>
      rintro D cd pre X hD hpre ⟨rfl, hne, hfull, hSR⟩ hK
      obtain ⟨ab3, ⟨v3, bx3, rw3, _⟩, at3, fl3, cb3, hB3, hsz3, hdk3, hfew, hsix⟩ := hSR
      rw [Nm.extract_drop] at hpre
      have hqq := HQ.out
      have hlen := Lib.size_eq text
      have hDX : D < X.heap.size := (Array.getElem?_eq_some_iff.1 hK).1
      have hmkX : Nm.Marks w.heap.size X X.heap.size ({ target := .collected D, args := #[] } :: ds) :=
        ⟨D, rfl, by have := HBS.out; omega, hDX, hK, ((HMK.out.dk (HD2.out.trans hdk3)).up (by have := HS2.out; omega))⟩
      obtain ⟨x, hx⟩ : ∃ x, pre = pre.dropLast ++ [x] := ⟨pre.getLast hne, (List.dropLast_concat_getLast _).symm⟩
      obtain ⟨p, hp⟩ : ∃ p, pre.dropLast = p := ⟨_, rfl⟩
      rw [hp] at hx hfull at3 hfew hsix
      subst hx
      have hso : Nm.scan s text.data.toList [] [] 0 = ([], 2, (text.data.toList.drop q).length - (Nm.lts p).flatten.length) := by
        rw [HSC.out]
        refine Nm.scan_over (x := x.1.data.toList) (by rw [Nm.lts_app] at hpre; exact hpre) (by rw [Nm.lts_len]; exact hfew) (fun h => hsix (fun e => h (by rw [e]; rfl))) (by rw [Nm.lts_len]; exact hfull)
      have hle : q + Nm.tot p ≤ text.size := by
        obtain ⟨z, hz⟩ := hpre
        have h2 := congrArg List.length (Nm.rd_join s (text.data.toList.drop q))
        rw [List.length_append, List.length_drop, ← hlen, ← hz, Nm.lts_app, List.append_assoc, List.flatten_append, List.length_append] at h2
        unfold Nm.tot
        omega
      rw [List.length_drop, ← hlen] at hso
      have hso2 : Nm.scan s text.data.toList [] [] 0 = ([], 2, text.size - (q + Nm.tot p)) := by
        rw [hso, Nat.sub_sub]
        rfl
      have HF : Hid (Nm.SI w wd al fi se (q + Nm.tot p) ws true X ∧ Nm.Marks w.heap.size X X.heap.size ({ target := .collected D, args := #[] } :: ds) ∧ q + Nm.tot p ≤ text.size ∧ Nm.scan s text.data.toList [] [] 0 = ([], 2, text.size - (q + Nm.tot p))) :=
        Lib.hid ⟨⟨ab3, ⟨_, bx3, rw3, trivial⟩, at3, fl3, hB3, hsz3⟩, hmkX, hle, hso2⟩
      clear ab3 bx3 rw3 at3 fl3 cb3 hB3 hsz3 hdk3 hmkX hK hlen hqq hso hso2 hle hpre hfew hsix hfull hp
      gi_wp2
      exact ⟨trivial, _, _, _, _, _, _, _, _, _, _, _, _, _, _, _, _, _, _, _, _, _, _, _, _, _, _, _, _, _, _, _, _, _, _, _, _, _, _, _, _, _, _, _, _, _, _, _, _, _, _, _, _, _, _, _, _, _, q + Nm.tot p, ws, true, rfl, HF.out.1, HF.out.2.1, HF.out.2.2.1, .inl ⟨rfl, HF.out.2.2.2⟩⟩
end Go.Proofs.YtcjlnmfbanknhaaDoor
