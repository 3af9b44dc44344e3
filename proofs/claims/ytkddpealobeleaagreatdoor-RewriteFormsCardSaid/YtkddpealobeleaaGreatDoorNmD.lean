/- Layer 9: the program's Letters. -/
import Derived.Test.YtkddpealobeleaaGreatDoorNmC
import Derived.Test.YtkddpealobeleaaGreatDoorNmO
import Derived.Maps.AppendAt
import Derived.RangeFuncBox
set_option linter.unusedSimpArgs false
set_option linter.unusedVariables false
namespace Go.Proofs.YtkddpealobeleaaGreatDoor
open Go.RowKit Go.Shelf
set_option maxRecDepth 100000
set_option maxHeartbeats 1000000
attribute [local go_sem] Oper.semAt_some

def Nm.strs (pre : List Ltr) : List ByteArray := pre.map Subtype.val
def Nm.tot (pre : List Ltr) : Nat := (Nm.lts pre).flatten.length
theorem Nm.tot_snoc (pre : List Ltr) (x : Ltr) : Nm.tot (pre ++ [x]) = Nm.tot pre + x.1.size := by
  unfold Nm.tot
  rw [Nm.lts_app, List.flatten_append, List.length_append, Lib.size_eq]
  show _ + ([x.1.data.toList].flatten).length = _
  simp
theorem Nm.strs_snoc (pre : List Ltr) (x : Ltr) : Nm.strs (pre ++ [x]) = Nm.strs pre ++ [x.1] := List.map_append
theorem Nm.strs_len (pre : List Ltr) : (Nm.strs pre).length = pre.length := List.length_map _
theorem Nm.strs_bt (pre : List Ltr) : Nm.strs pre = (Nm.lts pre).map Nm.bt := by
  unfold Nm.strs Nm.lts
  rw [List.map_map]
  exact List.map_congr_left fun x _ => by simp [Nm.bt]
theorem Nm.boxed_below {W W' : World} {B : Nat} {t : TypeId} {v : Value} (h : Boxed W B t v) (hb : Below W.heap.size W W') : Boxed W' B t v := (hb.block B h.lt).trans h
theorem Nm.row_mono {W : World} {B B' : Nat} {e : TypeId} {n k : Nat} {v : Value} {xs : List Value} (h : W.ownsRow B e n v k xs) (hB : B' ≤ B) : W.ownsRow B' e n v k xs := by
  refine ⟨h.1, ?_⟩
  rcases h.2 with h0 | ⟨g, cap, cur, h1, h2, h3⟩
  · exact .inl h0
  · exact .inr ⟨g, cap, cur, h1, Nat.le_trans hB h2, h3⟩
theorem Nm.row_other {W : World} {B k : Nat} {e : TypeId} {n m : Nat} {v : Value} {xs : List Value} (h : W.ownsRow B e n v m xs) (hk : k < B) : some k ≠ v.ownBlock := by
  rcases h.2 with ⟨rfl, _⟩ | ⟨g, cap, cur, rfl, h2, _⟩
  · simp [Value.ownBlock]
  · simp [Value.ownBlock]
    omega
theorem Nm.heap_keep {W w1 : World} {tmp : Obj} {v : Value} (hg : (W.alloc tmp).grownBy w1 v.ownBlock) {X : Nat} (hX : X < W.heap.size) (hne : some X ≠ v.ownBlock) : w1.heap[X]? = W.heap[X]? :=
  (hg.block X (by simp; omega) hne).trans (Below.heap_alloc _ _ _ hX)
theorem Nm.row_set {w3 : World} {B k b : Nat} {e t : TypeId} {n : Nat} {v u v' : Value} {xs : List Value} (h : w3.ownsRow B e n v k xs) (hb : Boxed w3 b t u) (hlt : b < B) : (w3.setCell ⟨b, 0, none⟩ v').ownsRow B e n v k xs :=
  h.kept (grownBy_setCell' w3 b v') (.inr (Nm.row_other h hlt).symm)
structure Nm.LI (w : World) (B0 : Nat) (word : ByteArray) (pre : List Ltr) (W : World) : Prop where
  box : ∃ v, Boxed W w.heap.size 28 v ∧ W.ownsRow B0 9 1 v (Nm.strs pre).length ((Nm.strs pre).map Value.string) ∧ True
  rest : Boxed W (w.heap.size + 1) 9 (.string (word.extract (Nm.tot pre) word.size))
  below : Below w.heap.size w W
  size : B0 ≤ W.heap.size
  few : pre.length ≤ 12
theorem Nm.LI.own (w : World) (B0 : Nat) (word : ByteArray) (B : Nat) (hB : w.heap.size ≤ B) : OwnFrom B (Nm.LI w B0 word) := fun pre A C row h hg hr =>
  ⟨(Own.from (holdsRow_own B0 w.heap.size 28 9 1 (fun pre : List Ltr => (Nm.strs pre).length) (fun pre => (Nm.strs pre).map Value.string) (fun _ _ => True)) B) pre A C row h.box hg hr,
    (Own.from (boxed_own (β := List Ltr) (w.heap.size + 1) 9 (fun pre => .string (word.extract (Nm.tot pre) word.size))) B) pre A C row h.rest hg hr,
    ownFrom_below (β := List Ltr) (Nat.le_refl _) hB pre A C row h.below hg hr, Nat.le_trans h.size hg.size, h.few⟩

def Nm.LPost (w : World) (s : Nat) (word : Nm.T) (e : Ending) (w' : World) : Prop :=
  Below w.heap.size w w' ∧ ((Nm.isW s word = true ∧ ∃ v, e = .returned (.tuple #[v, .int .i64 0]) ∧ OwnS w' w.heap.size v ((Nm.ls s word).map Nm.bt)) ∨ (Nm.isW s word = false ∧ e = .returned (.tuple #[.slice none 0 0, .int .i64 1])))
theorem Nm.letters_all (k : Int) (word : ByteArray) (w : World) (hm : word.size ≤ maxLen) (h : Nm.Tb w.heap.size w) :
    Calls Tryz.prog 33 #[.int .i64 k, .string word] w (Nm.LPost w (Nm.sc k) word.data.toList) := by
  have HAL := Lib.hid (fun w' (h' : Nm.Tb w'.heap.size w') => callsIn_wide (n := 4) |>.2 (Nm.alphabetOf_any k w' h'))
  have HLT := Lib.hid (fun w' => callsIn_wide (n := 4) |>.2 (Nm.letters_made (Nm.fld (Nm.sc k) 0) (Nm.fld (Nm.sc k) 1) (Nm.fld (Nm.sc k) 2) (Nm.fld (Nm.sc k) 3) word w'))
  have HOK := Nm.fld_ok (Nm.sc k)
  have HE0 : Hid (word.extract (Nm.tot []) word.size = word) := Lib.hid (by
    have h1 : (word.extract 0 word.size).data.toList = word.data.toList := by rw [Nm.extract_drop]; rfl
    exact ByteArray.ext (Array.toList_inj.1 h1))
  obtain ⟨s, hs⟩ : ∃ s, Nm.sc k = s := ⟨_, rfl⟩
  rw [hs] at HAL HLT HOK ⊢
  obtain ⟨w0, hw0⟩ : ∃ w0, ((w.alloc (.cells #[.slice none 0 0] 28)).alloc (.cells #[.string word] 9)) = w0 := ⟨_, rfl⟩
  have hb0 : Below w.heap.size w w0 := by rw [← hw0]; exact ((Below.refl _ w).alloc (Nat.le_refl _) _).alloc (by simp) _
  have b1 : Boxed w0 w.heap.size 28 (.slice none 0 0) := by rw [← hw0]; exact (Boxed.new w 28 (.slice none 0 0)).alloc _
  have b2 : Boxed w0 (w.heap.size + 1) 9 (.string word) := by
    have := Boxed.new (w.alloc (.cells #[.slice none 0 0] 28)) 9 (.string word)
    rw [World.size_alloc] at this
    rw [← hw0]; exact this
  have hsz0 : w0.heap.size = w.heap.size + 2 := by rw [← hw0]; simp
  have HT := Lib.hid (h.bt hb0)
  have HB0 := Lib.hid hb0
  have HB1 := Lib.hid b1
  have HB2 := Lib.hid b2
  have HSZ0 := Lib.hid hsz0
  have HW0 := Lib.hid hw0
  clear hb0 b1 b2 hsz0 h hw0 hs
  refine (callsIn_wide (n := 5)).1 ?_
  refine callsIn_of_wp_marks Tryz.func33 rfl trivial ?_ rfl
  simp only [Tryz.ntmps33, List.size_toArray, List.length_cons, List.length_nil, Nat.reduceAdd, Nat.reduceSub, Array.replicate_succ, Array.replicate_zero, List.push_toArray, List.append_toArray, List.nil_append, List.cons_append]
  gi_wp2_with (first
    | (refine ⟨trivial, ?_⟩; gi_at_call 70; rw [HW0.out]; refine (HAL.out w0 HT.out).mono ?_; rintro e w1 ⟨rfl, hb1⟩)
    | (refine ⟨trivial, ?_⟩; gi_at_call 71; refine (HLT.out _).mono ?_; rintro e w2 ⟨rfl, rfl⟩))
  generalize Nm.fld s 0 = wd at *
  generalize Nm.fld s 1 = al at *
  generalize Nm.fld s 2 = fi at *
  generalize Nm.fld s 3 = se at *
  have hbA : Below w.heap.size w ((w1.alloc (.cells #[.string wd, .string al, .string fi, .string se] 124)).alloc (.cells #[.string word] 9)) :=
    ((HB0.out.trans (hb1.mono HB0.out.size)).alloc (Nat.le_trans HB0.out.size hb1.size) _).alloc (by have := HB0.out.size; have := hb1.size; simp; omega) _
  have bx1 : Boxed w1 w.heap.size 28 (.slice none 0 0) := (hb1.block _ (by have := HSZ0.out; omega)).trans HB1.out
  have bx2 : Boxed w1 (w.heap.size + 1) 9 (.string word) := (hb1.block _ (by have := HSZ0.out; omega)).trans HB2.out
  have bL := (bx1.alloc (.cells #[.string wd, .string al, .string fi, .string se] 124)).alloc (.cells #[.string word] 9)
  have bR := (bx2.alloc (.cells #[.string wd, .string al, .string fi, .string se] 124)).alloc (.cells #[.string word] 9)
  have bA : Nm.AlBox ((w1.alloc (.cells #[.string wd, .string al, .string fi, .string se] 124)).alloc (.cells #[.string word] 9)) w1.heap.size wd al fi se :=
    (Below.heap_alloc _ _ _ (by simp)).trans (World.alloc_heap_new w1 _)
  have bT := Boxed.new (w1.alloc (.cells #[.string wd, .string al, .string fi, .string se] 124)) 9 (.string word)
  rw [World.size_alloc] at bT
  have hszW : ((w1.alloc (.cells #[.string wd, .string al, .string fi, .string se] 124)).alloc (.cells #[.string word] 9)).heap.size = w1.heap.size + 2 := by simp
  have hszw : w.heap.size + 2 ≤ w1.heap.size := by have := HSZ0.out; have := hb1.size; omega
  obtain ⟨W0, hW0⟩ : ∃ W0, ((w1.alloc (.cells #[.string wd, .string al, .string fi, .string se] 124)).alloc (.cells #[.string word] 9)) = W0 := ⟨_, rfl⟩
  rw [hW0] at hbA bL bR bA bT hszW ⊢
  clear hW0 hb1 bx1 bx2 HAL HLT
  refine Nm.wpIn_rangeFunc_good rfl (by decide) (gf := 116) (lb := #[.pointer (some ⟨w1.heap.size, 0, none⟩), .pointer (some ⟨w1.heap.size + 1, 0, none⟩)]) rfl trivial (enters_of Tryz.func116 (by kernel_rfl) rfl)
    (Nm.letters1_stops 4 (by decide) s w1.heap.size (w1.heap.size + 1) w.heap.size wd al fi se word HOK hm W0 (by omega) (by omega) (by omega) bA bT.cell) Nm.Kp.trans (Nm.kp_b (by omega) (by omega) (by omega)) (Below.refl _ _) (fun _ => rfl)
    (Nm.LI w W0.heap.size word) (fun c pre W => c = .exit 0 ∧ pre.length = 13 ∧ Nm.LI w W0.heap.size word pre.dropLast W) (Nm.LI.own w W0.heap.size word _ (by omega))
    (fun c pre X Y row hs hg hr => ⟨hs.1, hs.2.1, Nm.LI.own w W0.heap.size word W0.heap.size (by omega) pre.dropLast X Y row hs.2.2 hg hr⟩)
    ⟨⟨_, bL, World.ownsRow_nil _ _ _ _, trivial⟩, by rw [show word.extract (Nm.tot []) word.size = word from HE0.out]; exact bR, hbA, Nat.le_refl _, by simp⟩
    (fun x => { tmps := #[.int .i64 k, .string word, undef, undef, .slice none 0 0, .int .i64 0, .pointer (some ⟨w.heap.size, 0, none⟩), .pointer (some ⟨w.heap.size + 1, 0, none⟩), .string x.1, .string word, .int .i64 k, .agg #[.string wd, .string al, .string fi, .string se], .string word, .func (.func 116) #[] #[.pointer (some ⟨w1.heap.size, 0, none⟩), .pointer (some ⟨w1.heap.size + 1, 0, none⟩)], .string x.1, undef, undef, undef, undef, undef, undef, undef, undef, undef, undef, undef, undef, undef, undef, undef, undef, undef, undef, undef], defers := [] }) ?assign ?body ?done ?stop
  case assign =>
    intro l x W K hK
    gi_wp2
    exact hK
  case body =>
    rintro l pre x W ⟨⟨v, hv, hrow, _⟩, hR, hB, hsW, hfew⟩ hgd
    obtain ⟨A0, c0, rfl, _, _, _⟩ := OwnS.form (B := W0.heap.size) hrow
    have hc := hv.cell
    by_cases h12 : pre.length = 12
    · have hn : (Nm.strs pre).length = 12 := by rw [Nm.strs_len]; exact h12
      have HLI : Hid (Nm.LI w W0.heap.size word pre W) := Lib.hid ⟨⟨_, hv, hrow, trivial⟩, hR, hB, hsW, hfew⟩
      clear hrow hv hR
      rw [hn] at hc
      gi_wp2
      exact ⟨KeepsOthers.refl _, rfl, by simp [h12], by rw [List.dropLast_concat]; exact HLI.out⟩
    · have hne : (((Nm.strs pre).length : Int) == 12) = false := by rw [Nm.strs_len]; simp; omega
      have hle : (Nm.strs pre).length < 12 := by rw [Nm.strs_len]; omega
      have hx := x.2
      -- the rest of the word
      have hjoin : Hid (Nm.tot (pre ++ [x]) ≤ word.size) := Lib.hid (by
        have h1 := Nm.rd_join s word.data.toList
        have h2 := congrArg List.length h1
        rw [List.length_append, ← Lib.size_eq] at h2
        obtain ⟨z, hz⟩ := hgd
        rw [← hz, List.flatten_append, List.length_append] at h2
        unfold Nm.tot
        omega)
      obtain ⟨R, hRe⟩ : ∃ R, word.extract (Nm.tot pre) word.size = R := ⟨_, rfl⟩
      have hRs : R.size = word.size - Nm.tot pre := by
        rw [← hRe, Lib.size_eq, Nm.extract_drop, List.length_drop, ← Lib.size_eq]
      have hts := Nm.tot_snoc pre x
      have hxR : (x.1.size : Int) ≤ (R.size : Int) := by have := hjoin.out; omega
      have hRn : Hid (R.extract x.1.size R.size = word.extract (Nm.tot (pre ++ [x])) word.size) := Lib.hid (by
        have h3 : (R.extract x.1.size R.size).data.toList = (word.extract (Nm.tot (pre ++ [x])) word.size).data.toList := by
          rw [Nm.extract_drop, Nm.extract_drop, ← hRe, Nm.extract_drop, List.drop_drop, hts]
        exact ByteArray.ext (Array.toList_inj.1 h3))
      have HSN := Lib.hid (Nm.strs_snoc pre x)
      have HPL : Hid ((pre ++ [x]).length ≤ 12) := Lib.hid (by rw [List.length_append]; simp; omega)
      rw [hRe] at hR
      have hcR := hR.cell
      have HR := Lib.hid hR
      have HV := Lib.hid hv
      have HRow := Lib.hid hrow
      obtain ⟨i0, hi0, hz0, hz1, hz2⟩ := info_parts infoStr
      have hb12 : (Nm.strs pre).length + 1 ≤ maxLen := by unfold maxLen; omega
      have hbb : ((Nm.strs pre).length + 1) * 16 ≤ 140737488355328 := by omega
      have hx0 : (0 : Int) ≤ (x.1.size : Int) := by omega
      obtain ⟨xv, hxv⟩ : ∃ xv, x.1 = xv := ⟨_, rfl⟩
      rw [hxv] at hxR hRn hx HSN hx0 ⊢
      clear hrow hv hR hRe hRs hts hfew hle h12
      obtain ⟨sl, hsl⟩ : ∃ sl, Nm.strs pre = sl := ⟨_, rfl⟩
      rw [hsl] at *
      clear hsl
      gi_wp2_with (gi_at_builtin; refine wpListIn_append_own _ rfl _ _ 28 rfl W0.heap.size 9 i0 (.string ⟨#[]⟩) 1 16 Tryz.underlying28 hi0 hz0 hz1 hz2 rfl (by decide) _ _ _ rfl (HRow.out.alloc _) ⟨W.heap.size, 0, none⟩ 1 1 [.string xv] rfl rfl (cell_one_new _ _ _) (all_one_str xv) hb12 hbb (by simp; omega) ?_)
      intro v' w2 hown' hgrow _
      rw [← hszW] at hown'
      obtain ⟨g', cap', rfl⟩ := ownsRow_succ hown'
      obtain ⟨hv1, hv2, _, hk2, hb2⟩ := HV.out.appended (by decide) (Nm.row_mono HRow.out (by omega)) hB.size (Nat.le_refl _) (Nm.row_mono hown' (by omega)) hgrow
      have hR1 := (HR.out.alloc (.cells #[.string xv] 9)).kept hgrow (Nm.row_other HRow.out (by omega))
      have hR2 := hR1.other (B' := w.heap.size) (by omega) (.slice (some ⟨g', 0, none⟩) ((Nm.strs pre).length + 1) cap')
      have hrow2 := Nm.row_set (v' := .slice (some ⟨g', 0, none⟩) ((Nm.strs pre).length + 1) cap') hown' hv1 (by omega)
      have hrow3 := Nm.row_set (v' := .string (R.extract xv.size R.size)) hrow2 hR2 (by omega)
      have hkA : (w2.setCell ⟨w.heap.size, 0, none⟩ (.slice (some ⟨g', 0, none⟩) ((Nm.strs pre).length + 1) cap')).heap[w1.heap.size]? = W.heap[w1.heap.size]? :=
        (Below.heap_setCell _ _ _ _ (show w1.heap.size ≠ w.heap.size by omega)).trans (Nm.heap_keep hgrow (by omega) (Nm.row_other HRow.out (by omega)))
      have hkT : (w2.setCell ⟨w.heap.size, 0, none⟩ (.slice (some ⟨g', 0, none⟩) ((Nm.strs pre).length + 1) cap')).heap[w1.heap.size + 1]? = W.heap[w1.heap.size + 1]? :=
        (Below.heap_setCell _ _ _ _ (show w1.heap.size + 1 ≠ w.heap.size by omega)).trans (Nm.heap_keep hgrow (by omega) (Nm.row_other HRow.out (by omega)))
      have hsz2 : W0.heap.size ≤ w2.heap.size := by have := hgrow.size; simp at this; omega
      have hc1 := hv1.cell
      have hf1 := hv1.frozen
      have hc5 := hR2.cell
      have hf5 := hR2.frozen
      have H1 := Lib.hid hv2
      have H2 := Lib.hid hR2
      have H3 := Lib.hid hrow3
      have H4 := Lib.hid hkA
      have H5 := Lib.hid hkT
      have H6 := Lib.hid hk2
      have H7 := Lib.hid hb2
      clear hv1 hv2 hk2 hb2 hR1 hR2 hrow2 hrow3 hkA hkT hown' hgrow
      gi_wp2
      refine ⟨H6.out.trans (KeepsOthers.setCell _ _ _), ⟨H7.out.setCell (p := ⟨w.heap.size + 1, 0, none⟩) (by simp) _, (Below.heap_setCell _ _ _ _ (show w1.heap.size ≠ w.heap.size + 1 by omega)).trans H4.out, (Below.heap_setCell _ _ _ _ (show w1.heap.size + 1 ≠ w.heap.size + 1 by omega)).trans H5.out⟩,
        ⟨⟨_, H1.out.other (by omega) _, by rw [HSN.out]; simpa using H3.out, trivial⟩, by rw [← hRn.out]; exact H2.out.set _, hB.trans (H7.out.setCell (p := ⟨w.heap.size + 1, 0, none⟩) (by simp) _), by simpa using hsz2, HPL.out⟩⟩
  case done =>
    rintro D ys W hD hys ⟨⟨v, hv, hrow, _⟩, hR, hB, hsW, hfew⟩ hK
    obtain ⟨A0, c0, rfl, _, _, _⟩ := OwnS.form (B := W0.heap.size) hrow
    have hc := hv.cell
    have hcR := hR.cell
    have hBE : Below w.heap.size w (W.putObj D (.deferred none)) := hB.trans (belowK_b (w := w) (Nat.le_refl _) W D _ _ (by omega) hK rfl rfl)
    have hRd : (word.extract (Nm.tot ys) word.size).data.toList = (Nm.rd s word.data.toList).2 := by
      have h1 := Nm.rd_join s word.data.toList
      rw [Nm.extract_drop]
      unfold Nm.tot
      rw [hys]
      generalize (Nm.rd s word.data.toList).1.flatten = F at *
      generalize (Nm.rd s word.data.toList).2 = r at *
      rw [← h1]
      simp
    obtain ⟨R, hRe⟩ : ∃ R, word.extract (Nm.tot ys) word.size = R := ⟨_, rfl⟩
    rw [hRe] at hcR hRd
    have hn : (Nm.strs ys).length = (Nm.rd s word.data.toList).1.length := by rw [Nm.strs_len, ← hys, Nm.lts_len]
    have hfew2 : (Nm.rd s word.data.toList).1.length ≤ 12 := by rw [← hys, Nm.lts_len]; exact hfew
    have hss : Nm.strs ys = (Nm.ls s word.data.toList).map Nm.bt := by rw [Nm.strs_bt, hys]; rfl
    have HHR : Hid ((W.putObj D (.deferred none)).ownsRow W0.heap.size 9 1 (.slice A0 (Nm.strs ys).length c0) (Nm.strs ys).length ((Nm.strs ys).map Value.string)) := Lib.hid (ownsRow_putObj hrow _ hK rfl)
    by_cases hz : (Nm.rd s word.data.toList).1.length = 0
    · have hW : Nm.isW s word.data.toList = false := by simp [Nm.isW, hz]
      rw [hz] at hn
      rw [hn] at hc
      have HF := Lib.hid hW
      have HBE := Lib.hid hBE
      clear hW hz hfew2 hRd hss hrow hv hR
      gi_wp2
      refine ⟨by simp, .inl ⟨_, _, rfl, run_takeDeferred hK, ?_⟩⟩
      exact ⟨.tuple #[.slice none 0 0, .int .i64 1], by simp [results, Tryz.f33, go_sem], HBE.out, .inr ⟨HF.out, rfl⟩⟩
    · have hn0 : (((Nm.strs ys).length : Int) == 0) = false := by rw [hn]; simpa using hz
      by_cases he : (Nm.rd s word.data.toList).2 = []
      · have hW : Nm.isW s word.data.toList = true := Nm.isW_of (x := (Nm.rd s word.data.toList).1) (Prod.ext rfl he) (by omega) hfew2
        have hem : R.toList.isEmpty = true := by rw [Lib.toList_data, hRd, he]; rfl
        have HF := Lib.hid hW
        have HBE := Lib.hid hBE
        have HSS := Lib.hid hss
        clear hW hz hfew2 hRd hss hrow hv hR hn he
        gi_wp2
        refine ⟨by simp, .inl ⟨_, _, rfl, run_takeDeferred hK, ?_⟩⟩
        refine ⟨.tuple #[.slice A0 (Nm.strs ys).length c0, .int .i64 0], by simp [results, Tryz.f33, go_sem], HBE.out, .inl ⟨HF.out, _, rfl, ?_⟩⟩
        rw [← HSS.out]
        exact Nm.row_mono HHR.out (by omega)
      · have hW : Nm.isW s word.data.toList = false := by
          have : (Nm.rd s word.data.toList).2.isEmpty = false := by simpa using he
          simp [Nm.isW, this]
        have hem : R.toList.isEmpty = false := by rw [Lib.toList_data, hRd]; simpa using he
        have HF := Lib.hid hW
        have HBE := Lib.hid hBE
        clear hW hz hfew2 hRd hss hrow hv hR hn he
        gi_wp2
        refine ⟨by simp, .inl ⟨_, _, rfl, run_takeDeferred hK, ?_⟩⟩
        exact ⟨.tuple #[.slice none 0 0, .int .i64 1], by simp [results, Tryz.f33, go_sem], HBE.out, .inr ⟨HF.out, rfl⟩⟩
  case stop =>
    rintro D cd pre W hD hpre ⟨rfl, h13, ⟨v, hv, hrow, _⟩, hR, hB, hsW, hfew⟩ hK
    obtain ⟨A0, c0, rfl, _, _, _⟩ := OwnS.form (B := W0.heap.size) hrow
    have hc := hv.cell
    have hcR := hR.cell
    have hBE : Below w.heap.size w (W.putObj D (.deferred none)) := hB.trans (belowK_b (w := w) (Nat.le_refl _) W D _ _ (by omega) hK rfl rfl)
    have hlt : 12 < (Nm.rd s word.data.toList).1.length := by
      have := hpre.length_le
      rw [Nm.lts_len] at this
      omega
    have hW : Nm.isW s word.data.toList = false := by
      have : decide ((Nm.rd s word.data.toList).1.length ≤ 12) = false := decide_eq_false (by omega)
      simp [Nm.isW, this]
    have hRd : (word.extract (Nm.tot pre.dropLast) word.size).data.toList ≠ [] := by
      intro e
      rw [Nm.extract_drop] at e
      have h1 := List.drop_eq_nil_iff.1 e
      rw [← Lib.size_eq] at h1
      have h2 := congrArg List.length (Nm.rd_join s word.data.toList)
      rw [List.length_append, ← Lib.size_eq] at h2
      obtain ⟨z, hz⟩ := hpre
      obtain ⟨x, hx⟩ : ∃ x, pre = pre.dropLast ++ [x] := ⟨pre.getLast (by intro e; subst e; simp at h13), (List.dropLast_concat_getLast _).symm⟩
      have h3 := Nm.tot_snoc pre.dropLast x
      rw [← hx] at h3
      have h4 := x.2
      rw [← hz, List.flatten_append, List.length_append] at h2
      unfold Nm.tot at *
      omega
    obtain ⟨R, hRe⟩ : ∃ R, word.extract (Nm.tot pre.dropLast) word.size = R := ⟨_, rfl⟩
    rw [hRe] at hcR hRd
    have hem : R.toList.isEmpty = false := by rw [Lib.toList_data]; simpa using hRd
    have hn : (Nm.strs pre.dropLast).length = 12 := by rw [Nm.strs_len, List.length_dropLast]; omega
    rw [hn] at hc
    have HF := Lib.hid hW
    have HBE := Lib.hid hBE
    clear hW hlt hRd hrow hv hR hn h13 hfew
    gi_wp2
    refine ⟨by simp, .inl ⟨_, _, rfl, run_takeDeferred hK, ?_⟩⟩
    exact ⟨.tuple #[.slice none 0 0, .int .i64 1], by simp [results, Tryz.f33, go_sem], HBE.out, .inr ⟨HF.out, rfl⟩⟩

theorem Nm.letters_ok (k : Int) (word : ByteArray) (w : World) (hw : Nm.isW (Nm.sc k) word.data.toList = true) (hm : word.size ≤ maxLen) (h : Nm.Tb w.heap.size w) :
    Calls Tryz.prog 33 #[.int .i64 k, .string word] w fun e w' => ∃ v, e = .returned (.tuple #[v, .int .i64 0]) ∧ OwnS w' w.heap.size v ((Nm.ls (Nm.sc k) word.data.toList).map Nm.bt) ∧ Below w.heap.size w w' :=
  (Nm.letters_all k word w hm h).mono fun e w' ⟨hb, h'⟩ => h'.elim (fun ⟨_, v, h1, h2⟩ => ⟨v, h1, h2, hb⟩) (fun ⟨h1, _⟩ => by rw [hw] at h1; cases h1)
theorem Nm.letters_bad (k : Int) (word : ByteArray) (w : World) (hw : Nm.isW (Nm.sc k) word.data.toList = false) (hm : word.size ≤ maxLen) (h : Nm.Tb w.heap.size w) :
    Calls Tryz.prog 33 #[.int .i64 k, .string word] w fun e w' => e = .returned (.tuple #[.slice none 0 0, .int .i64 1]) ∧ Below w.heap.size w w' :=
  (Nm.letters_all k word w hm h).mono fun e w' ⟨hb, h'⟩ => h'.elim (fun ⟨h1, _⟩ => by rw [hw] at h1; cases h1) (fun ⟨_, h1⟩ => ⟨h1, hb⟩)
end Go.Proofs.YtkddpealobeleaaGreatDoor
