/- The program's signature and signingKey: loops over the digits of a message (layer 3). -/
import Derived.Test.YtdlmbpoihnifiaaDoorSeQ
import Derived.Test.YtdlmbpoihnifiaaDoorSeR
import Derived.Test.YtdlmbpoihnifiaaDoorRound
import Derived.Maps.AppendAt
import Derived.RangeFuncBox
namespace Go.Proofs.YtdlmbpoihnifiaaDoor
open Go.RowKit Go.Shelf
set_option maxRecDepth 100000
set_option linter.unusedSimpArgs false
set_option linter.unusedVariables false
attribute [local go_sem] Oper.semAt_some
attribute [-go_sem] Builtin.append_

def sigL (s : ByteArray) (i : Nat) (pre : List Dig) : List ByteArray := pre.map fun p => Se.ch (Se.start s i p.1.1) p.1.2
theorem sigL_snoc (s : ByteArray) (i : Nat) (pre : List Dig) (x : Dig) : sigL s i (pre ++ [x]) = sigL s i pre ++ [Se.ch (Se.start s i x.1.1) x.1.2] := by unfold sigL; rw [List.map_append]; rfl
structure SigI (w : World) (s : ByteArray) (i : Nat) (pre : List Dig) (W : World) : Prop where
  box : ∃ v, Boxed W (w.heap.size + 1 + 1) 22 v ∧ W.ownsRow (w.heap.size + 4) 9 1 v (sigL s i pre).length ((sigL s i pre).map Value.string) ∧ True
  b1 : Boxed W w.heap.size 9 (.string s)
  b2 : Boxed W (w.heap.size + 1) 3 (.int .i64 (i : Int))
  below : Below w.heap.size w W
  size : w.heap.size + 4 ≤ W.heap.size
theorem sigI_own (w : World) (s : ByteArray) (i B : Nat) (hB : w.heap.size ≤ B) : OwnFrom B (SigI w s i) := fun pre A C row h hg hr =>
  ⟨(Own.from (holdsRow_own (w.heap.size + 4) (w.heap.size + 1 + 1) 22 9 1 (fun pre : List Dig => (sigL s i pre).length) (fun pre => (sigL s i pre).map Value.string) (fun _ _ => True)) B) pre A C row h.box hg hr,
    (Own.from (boxed_own (β := List Dig) w.heap.size 9 (fun _ => .string s)) B) pre A C row h.b1 hg hr,
    (Own.from (boxed_own (β := List Dig) (w.heap.size + 1) 3 (fun _ => .int .i64 (i : Int))) B) pre A C row h.b2 hg hr,
    ownFrom_below (β := List Dig) (Nat.le_refl _) hB pre A C row h.below hg hr, Nat.le_trans h.size hg.size⟩

theorem boxed_below {W W' : World} {B : Nat} {t : TypeId} {v : Value} (h : Boxed W B t v) (hb : Below W.heap.size W W') : Boxed W' B t v := (hb.block B h.lt).trans h
theorem keepsOthers_below {W W' : World} (hb : Below W.heap.size W W') : KeepsOthers W W' := ⟨hb.size, fun k _ hk _ => (hb.block k (Array.getElem?_eq_some_iff.1 hk).1).trans hk⟩
theorem row_below {W W' : World} {B : Nat} {e : TypeId} {n k : Nat} {v : Value} {xs : List Value} (h : W.ownsRow B e n v k xs) (hb : Below W.heap.size W W') : W'.ownsRow B e n v k xs := by
  refine h.kept (row := none) ⟨hb.os, hb.tape, hb.output, hb.size, fun i hi _ => hb.block i hi⟩ ?_
  cases h : v.ownBlock with
  | none => exact .inl rfl
  | some g => exact .inr (by simp)
theorem row_mono {W : World} {B B' : Nat} {e : TypeId} {n k : Nat} {v : Value} {xs : List Value} (h : W.ownsRow B e n v k xs) (hB : B' ≤ B) : W.ownsRow B' e n v k xs := by
  refine ⟨h.1, ?_⟩
  rcases h.2 with h0 | ⟨g, cap, cur, h1, h2, h3⟩
  · exact .inl h0
  · exact .inr ⟨g, cap, cur, h1, Nat.le_trans hB h2, h3⟩
theorem row_other {W : World} {B k : Nat} {e : TypeId} {n m : Nat} {v : Value} {xs : List Value} (h : W.ownsRow B e n v m xs) (hk : k < B) : some k ≠ v.ownBlock := by
  rcases h.2 with ⟨rfl, _⟩ | ⟨g, cap, cur, rfl, h2, _⟩
  · simp [Value.ownBlock]
  · simp [Value.ownBlock]
    omega

def isDefer : Op → Bool
  | .defer _ => true
  | _ => false
theorem no_defer {ops : Array Oper} (h : ops.all (fun o => !isDefer o.op) = true) : ∀ (i : Nat) (o : Oper), ops[i]? = some o → ∀ c, o.op ≠ .defer c := by
  intro i o ho c e
  have h1 := (Array.all_eq_true.1 h) i (Array.getElem?_eq_some_iff.1 ho).1
  rw [(Array.getElem?_eq_some_iff.1 ho).2, e] at h1
  simp [isDefer] at h1

/-- The row that the longer slice owns lies as it lay when the variable is stored. -/
theorem hown_set {w3 : World} {B k b : Nat} {e t : TypeId} {n : Nat} {v u v' : Value} {xs : List Value} (h : w3.ownsRow B e n v k xs) (hb : Boxed w3 b t u) (hlt : b < B := by omega) : (w3.setCell ⟨b, 0, none⟩ v').ownsRow B e n v k xs :=
  h.kept (grownBy_setCell' w3 b v') (.inr (row_other h hlt).symm)

set_option maxHeartbeats 2000000 in
theorem signature_any (s m : ByteArray) (i : Nat) (w : World) (hs : s.size ≤ 1000000000) (hi : i ≤ 1000000) (hm : m.size ≤ maxLen) (hp : Pow w.heap.size w) :
    Calls Tryd.prog 32 #[.string s, .int .i64 (i : Int), .string m] w (Gives (Se.sig s i m) w) := by
  have hsig : Se.sig s i m = (digs18 m).map fun p => Se.ch (Se.start s i p.1) p.2 := by unfold Se.sig digs18; rw [List.map_map]; rfl
  unfold Gives
  rw [hsig]
  clear hsig
  have HD := Lib.hid (fun w' => callsIn_wide (n := 4) |>.2 (digits_made m w'))
  refine (callsIn_wide (n := 5)).1 ?_
  refine callsIn_of_wp_marks Tryd.func32 rfl trivial ?_ rfl
  simp only [Tryd.ntmps32, List.size_toArray, List.length_cons, List.length_nil, Nat.reduceAdd, Nat.reduceSub, Array.replicate_succ, Array.replicate_zero, List.push_toArray, List.append_toArray, List.nil_append, List.cons_append]
  gi_wp2_with (refine ⟨trivial, ?_⟩; gi_at_call 63; refine (HD.out _).mono ?_; rintro e w' ⟨rfl, rfl⟩)
  obtain ⟨b, hb⟩ : ∃ b, b = w.heap.size := ⟨_, rfl⟩
  have B1 := Boxed.new w 9 (.string s)
  have B2 := Boxed.new (w.alloc (.cells #[.string s] 9)) 3 (.int .i64 (i : Int))
  have B3 := Boxed.new ((w.alloc (.cells #[.string s] 9)).alloc (.cells #[.int .i64 (i : Int)] 3)) 22 (.slice none 0 0)
  have B4 := Boxed.new (((w.alloc (.cells #[.string s] 9)).alloc (.cells #[.int .i64 (i : Int)] 3)).alloc (.cells #[.slice none 0 0] 22)) 9 (.string m)
  simp only [World.size_alloc] at B1 B2 B3 B4
  have hW : Below w.heap.size w ((((w.alloc (.cells #[.string s] 9)).alloc (.cells #[.int .i64 (i : Int)] 3)).alloc (.cells #[.slice none 0 0] 22)).alloc (.cells #[.string m] 9)) :=
    ((((Below.refl _ w).alloc (Nat.le_refl _) _).alloc (by simp) _).alloc (by simp; omega) _).alloc (by simp; omega) _
  have hsz : ((((w.alloc (.cells #[.string s] 9)).alloc (.cells #[.int .i64 (i : Int)] 3)).alloc (.cells #[.slice none 0 0] 22)).alloc (.cells #[.string m] 9)).heap.size = w.heap.size + 4 := by simp
  have B1' := ((B1.alloc (.cells #[.int .i64 (i : Int)] 3)).alloc (.cells #[.slice none 0 0] 22)).alloc (.cells #[.string m] 9)
  have B2' := (B2.alloc (.cells #[.slice none 0 0] 22)).alloc (.cells #[.string m] 9)
  have B3' := B3.alloc (.cells #[.string m] 9)
  clear B1 B2 B3
  obtain ⟨W0, hW0⟩ : ∃ W0, W0 = ((((w.alloc (.cells #[.string s] 9)).alloc (.cells #[.int .i64 (i : Int)] 3)).alloc (.cells #[.slice none 0 0] 22)).alloc (.cells #[.string m] 9)) := ⟨_, rfl⟩
  rw [← hW0] at B1' B2' B3' B4 hW hsz ⊢
  clear hW0
  refine wpIn_rangeFunc_ownF rfl (by decide) (gf := 80) (lb := #[.pointer (some ⟨w.heap.size + 1 + 1 + 1, 0, none⟩)]) rfl trivial (enters_of Tryd.func80 (by kernel_rfl) rfl)
    (digits1_stops 4 (by decide) (w.heap.size + 1 + 1 + 1) w.heap.size m hm W0 (by omega) B4.cell) belowK_t (belowK_b (by omega)) (Below.refl _ _) (fun _ => rfl)
    (SigI w s i) (fun _ _ _ => False) (sigI_own w s i _ (by omega))
    (fun _ _ _ _ _ hs _ _ => hs)
    ⟨⟨_, B3', World.ownsRow_nil _ _ _ _, trivial⟩, B1', B2', hW, by omega⟩
    (fun x => { tmps := #[.string s, .int .i64 (i : Int), .string m, .pointer (some ⟨w.heap.size, 0, none⟩), .pointer (some ⟨w.heap.size + 1, 0, none⟩), undef, .slice none 0 0, .pointer (some ⟨w.heap.size + 1 + 1, 0, none⟩), .int .i64 (x.1.1 : Int), .int .i64 (x.1.2 : Int), .string m, .func (.func 80) #[] #[.pointer (some ⟨w.heap.size + 1 + 1 + 1, 0, none⟩)], .int .i64 (x.1.1 : Int), .int .i64 (x.1.2 : Int), undef, undef, undef, undef, undef, undef, undef, undef, undef, undef], defers := [] }) ?assign ?body ?done ?stop
  case assign =>
    intro l x W K hK
    gi_wp2
    exact hK
  case body =>
    rintro l pre x W ⟨⟨v, hv, hrow, _⟩, b1, b2, hB, hsW⟩ hlt
    have hx := x.2
    have ST := Lib.hid (fun (w' : World) (h : Pow w'.heap.size w') => pstart_any s i x.1.1 w' hs hi (by omega) h)
    have CV := Lib.hid (fun (w' : World) => pchain_val (Se.start s i x.1.1) x.1.2 (by omega) w' (by rw [Se.start, Tr.dg_size]; omega))
    have hlen : (sigL s i pre).length ≤ 18 := by simp only [sigL, List.length_map]; omega
    have HSN := Lib.hid (sigL_snoc s i pre x)
    have hc1 := b1.cell
    have hc2 := b2.cell
    have hc3 := hv.cell
    have hpD := (hp.bt hB).bt (Bd W)
    have hmx : Tryd.prog.follows .mixedOrders = true := by kernel_rfl
    obtain ⟨i0, hi0, hz0, hz1, hz2⟩ := info_parts infoStr
    generalize sigL s i pre = sl at *
    have AP := Lib.hid (fun (w2 : World) (r : ByteArray) (h : w2.ownsRow (w.heap.size + 4) 9 1 v sl.length (sl.map Value.string)) (hw2 : w.heap.size + 4 ≤ w2.heap.size) =>
      run_append_own_at (P := Tryd.prog) (w := w2.alloc (.cells #[.string r] 9)) (w.heap.size + 4) 22 22 9 i0 (.string ⟨#[]⟩) 1 16 Tryd.underlying22 hi0 hz0 hz1 hz2 rfl (by decide) v sl.length (sl.map Value.string)
        (row_below h ((Below.refl _ _).alloc (Nat.le_refl _) _)) ⟨w2.heap.size, 0, none⟩ 1 1 [.string r] rfl (cell_one_new _ _ _) (all_one_str r) (by unfold maxLen; omega) (by omega) (by simp; omega))
    have HV := Lib.hid hv
    have HR := Lib.hid hrow
    clear hi0 hz0 hz1 hz2 hv hrow
    generalize Se.ch (Se.start s i x.1.1) x.1.2 = ce at *
    generalize Se.start s i x.1.1 = st at *
    gi_wp2
    refine wpIn_region_held (S := fun w' => w'.cell? ⟨w.heap.size, 0, none⟩ = some (.string s) ∧ w'.cell? ⟨w.heap.size + 1, 0, none⟩ = some (.int .i64 (i : Int))) hmx ?nd ?lo ⟨hc1, hc2⟩ (fun hH => ?_)
    case nd => exact no_defer (by kernel_rfl)
    case lo => rintro ⟨a, w, h⟩; exact h
    refine wpAnyH_take (i := 1) (v := .string s) rfl (by kernel_rfl) (by kernel_rfl) (by kernel_rfl) (fun _ _ _ h => h) (Or.inl ⟨by rfl, fun w' hSw => ?_⟩) hH ?_
    · obtain ⟨q1, q2⟩ := hSw
      go_simp
    try simp only [Act.put, List.setIfInBounds_toArray, List.set_cons_zero, List.set_cons_succ]
    refine wpAnyH_take (i := 2) (v := .int .i64 (i : Int)) rfl (by kernel_rfl) (by kernel_rfl) (by kernel_rfl) (fun _ _ _ h => h) (Or.inl ⟨by rfl, fun w' hSw => ?_⟩) hH ?_
    · obtain ⟨q1, q2⟩ := hSw
      go_simp
    try simp only [Act.put, List.setIfInBounds_toArray, List.set_cons_zero, List.set_cons_succ]
    refine wpAnyH_take (i := 3) (v := .int .i64 (x.1.1 : Int)) rfl (by kernel_rfl) (by kernel_rfl) (by kernel_rfl) (fun _ _ _ h => h) (Or.inl ⟨by rfl, fun w' hSw => ?_⟩) hH ?_
    · obtain ⟨q1, q2⟩ := hSw
      go_simp
    try simp only [Act.put, List.setIfInBounds_toArray, List.set_cons_zero, List.set_cons_succ]
    refine wpAnyH_take (i := 5) (v := .int .i64 (x.1.2 : Int)) rfl (by kernel_rfl) (by kernel_rfl) (by kernel_rfl) (fun _ _ _ h => h) (Or.inl ⟨by rfl, fun w' hSw => ?_⟩) hH ?_
    · obtain ⟨q1, q2⟩ := hSw
      go_simp
    try simp only [Act.put, List.setIfInBounds_toArray, List.set_cons_zero, List.set_cons_succ]
    refine wpAnyH_ready (rs := [0, 4]) (by kernel_rfl) (by simp) ?_
    refine AllReadyH.cons (i := 0) rfl (fun K hK => ?_) (AllReadyH.cons (i := 4) rfl (fun K hK => ?_) (AllReadyH.nil))
    · go_simp
      refine hK.out _ _ hH (fun hH => ?_)
      try simp only [Act.put, List.setIfInBounds_toArray, List.set_cons_zero, List.set_cons_succ]
      refine wpAnyH_ready (rs := [4]) (by kernel_rfl) (by simp) ?_
      refine AllReadyH.cons (i := 4) rfl (fun K hK => ?_) (AllReadyH.nil)
      go_simp
      go_at_call 65
      refine (ST.out _ hpD).mono ?_
      rintro e w1 ⟨rfl, hb1⟩
      have hbW1 := Bt (Bd W) hb1
      have hd3 := cell_bt (w := W) hc3 hbW1
      try dsimp only
      refine hK.out _ _ ⟨cell_bt (w := W) hc1 hbW1, cell_bt (w := W) hc2 hbW1⟩ (fun hH => ?_)
      try simp only [Act.put, List.setIfInBounds_toArray, List.set_cons_zero, List.set_cons_succ]
      refine wpAnyH_ready (rs := [6]) (by kernel_rfl) (by simp) ?_
      refine AllReadyH.cons (i := 6) rfl (fun K hK => ?_) (AllReadyH.nil)
      go_simp
      go_at_call 64
      refine (CV.out _).mono ?_
      rintro e w2 ⟨rfl, hb2⟩
      have hbW2 := Bt hbW1 hb2
      have hd4 := cell_bt (w := W) hc3 hbW2
      obtain ⟨v3, w3, hrun3, hown3, hgrow3, _, _⟩ := AP.out w2 ce (row_below HR.out hbW2) (Nat.le_trans hsW hbW2.size)
      obtain ⟨g', cap', rfl⟩ := ownsRow_succ hown3
      obtain ⟨hv1, hv2, hr2, hk2, hbb⟩ := (boxed_below HV.out hbW2).appended (by decide) (row_mono (row_below HR.out hbW2) (Nat.le_add_right _ 4)) (Nat.le_trans (by omega) hbW2.size) (by omega) (row_mono hown3 (Nat.le_add_right _ 4)) hgrow3
      have hx1 := ((boxed_below b1 hbW2).alloc (.cells #[.string ce] 9)).kept hgrow3 (row_other HR.out (by omega))
      have hx2 := ((boxed_below b2 hbW2).alloc (.cells #[.string ce] 9)).kept hgrow3 (row_other HR.out (by omega))
      have hy1 := hx1.other (B' := w.heap.size + 1 + 1) (by omega) (.slice (some ⟨g', 0, none⟩) (sl.length + 1) cap')
      have hy2 := hx2.other (B' := w.heap.size + 1 + 1) (by omega) (.slice (some ⟨g', 0, none⟩) (sl.length + 1) cap')
      have hd6 := ((boxed_below HV.out hbW2).alloc (.cells #[.string ce] 9)).cell
      have hc5 := hv1.cell
      have hf5 := hv1.frozen
      have hsz3 : w.heap.size + 4 ≤ w3.heap.size := by
        have := hgrow3.size
        have := hbW2.size
        simp at *
        omega
      try dsimp only
      refine hK.out _ _ ⟨cell_bt (w := W) hc1 hbW2, cell_bt (w := W) hc2 hbW2⟩ (fun hH => ?_)
      try simp only [Act.put, List.setIfInBounds_toArray, List.set_cons_zero, List.set_cons_succ]
      refine wpAnyH_ready (rs := [7]) (by kernel_rfl) (by simp) ?_
      refine AllReadyH.cons (i := 7) rfl (fun K hK => ?_) (AllReadyH.nil)
      go_simp
      refine hK.out _ _ ⟨((boxed_below b1 hbW2).alloc _).cell, ((boxed_below b2 hbW2).alloc _).cell⟩ (fun hH => ?_)
      try simp only [Act.put, List.setIfInBounds_toArray, List.set_cons_zero, List.set_cons_succ]
      refine wpAnyH_ready (rs := [8]) (by kernel_rfl) (by simp) ?_
      refine AllReadyH.cons (i := 8) rfl (fun K hK => ?_) (AllReadyH.nil)
      go_simp
      refine hK.out _ _ ⟨hx1.cell, hx2.cell⟩ (fun hH => ?_)
      try simp only [Act.put, List.setIfInBounds_toArray, List.set_cons_zero, List.set_cons_succ]
      refine wpAnyH_ready (rs := [9]) (by kernel_rfl) (by simp) ?_
      refine AllReadyH.cons (i := 9) rfl (fun K hK => ?_) (AllReadyH.nil)
      go_simp
      refine hK.out _ _ ⟨hy1.cell, hy2.cell⟩ (fun hH => ?_)
      try simp only [Act.put, List.setIfInBounds_toArray, List.set_cons_zero, List.set_cons_succ]
      refine wpAnyH_done (by kernel_rfl) ?_ _
      exact ⟨(keepsOthers_below hbW2).trans hk2, (hbW2.mono (by omega)).trans hbb, ⟨⟨_, hv2, by rw [HSN.out]; simpa using hown_set hown3 hv1, trivial⟩, hy1, hy2, hB.trans ((hbW2.mono (by omega)).trans hbb), by simpa using hsz3⟩⟩
    · go_simp
      go_at_call 65
      refine (ST.out _ hpD).mono ?_
      rintro e w1 ⟨rfl, hb1⟩
      have hbW1 := Bt (Bd W) hb1
      have hd3 := cell_bt (w := W) hc3 hbW1
      try dsimp only
      refine hK.out _ _ ⟨cell_bt (w := W) hc1 hbW1, cell_bt (w := W) hc2 hbW1⟩ (fun hH => ?_)
      try simp only [Act.put, List.setIfInBounds_toArray, List.set_cons_zero, List.set_cons_succ]
      refine wpAnyH_ready (rs := [0, 6]) (by kernel_rfl) (by simp) ?_
      refine AllReadyH.cons (i := 0) rfl (fun K hK => ?_) (AllReadyH.cons (i := 6) rfl (fun K hK => ?_) (AllReadyH.nil))
      · go_simp
        refine hK.out _ _ hH (fun hH => ?_)
        try simp only [Act.put, List.setIfInBounds_toArray, List.set_cons_zero, List.set_cons_succ]
        refine wpAnyH_ready (rs := [6]) (by kernel_rfl) (by simp) ?_
        refine AllReadyH.cons (i := 6) rfl (fun K hK => ?_) (AllReadyH.nil)
        go_simp
        go_at_call 64
        refine (CV.out _).mono ?_
        rintro e w2 ⟨rfl, hb2⟩
        have hbW2 := Bt hbW1 hb2
        have hd4 := cell_bt (w := W) hc3 hbW2
        obtain ⟨v3, w3, hrun3, hown3, hgrow3, _, _⟩ := AP.out w2 ce (row_below HR.out hbW2) (Nat.le_trans hsW hbW2.size)
        obtain ⟨g', cap', rfl⟩ := ownsRow_succ hown3
        obtain ⟨hv1, hv2, hr2, hk2, hbb⟩ := (boxed_below HV.out hbW2).appended (by decide) (row_mono (row_below HR.out hbW2) (Nat.le_add_right _ 4)) (Nat.le_trans (by omega) hbW2.size) (by omega) (row_mono hown3 (Nat.le_add_right _ 4)) hgrow3
        have hx1 := ((boxed_below b1 hbW2).alloc (.cells #[.string ce] 9)).kept hgrow3 (row_other HR.out (by omega))
        have hx2 := ((boxed_below b2 hbW2).alloc (.cells #[.string ce] 9)).kept hgrow3 (row_other HR.out (by omega))
        have hy1 := hx1.other (B' := w.heap.size + 1 + 1) (by omega) (.slice (some ⟨g', 0, none⟩) (sl.length + 1) cap')
        have hy2 := hx2.other (B' := w.heap.size + 1 + 1) (by omega) (.slice (some ⟨g', 0, none⟩) (sl.length + 1) cap')
        have hd6 := ((boxed_below HV.out hbW2).alloc (.cells #[.string ce] 9)).cell
        have hc5 := hv1.cell
        have hf5 := hv1.frozen
        have hsz3 : w.heap.size + 4 ≤ w3.heap.size := by
          have := hgrow3.size
          have := hbW2.size
          simp at *
          omega
        try dsimp only
        refine hK.out _ _ ⟨cell_bt (w := W) hc1 hbW2, cell_bt (w := W) hc2 hbW2⟩ (fun hH => ?_)
        try simp only [Act.put, List.setIfInBounds_toArray, List.set_cons_zero, List.set_cons_succ]
        refine wpAnyH_ready (rs := [7]) (by kernel_rfl) (by simp) ?_
        refine AllReadyH.cons (i := 7) rfl (fun K hK => ?_) (AllReadyH.nil)
        go_simp
        refine hK.out _ _ ⟨((boxed_below b1 hbW2).alloc _).cell, ((boxed_below b2 hbW2).alloc _).cell⟩ (fun hH => ?_)
        try simp only [Act.put, List.setIfInBounds_toArray, List.set_cons_zero, List.set_cons_succ]
        refine wpAnyH_ready (rs := [8]) (by kernel_rfl) (by simp) ?_
        refine AllReadyH.cons (i := 8) rfl (fun K hK => ?_) (AllReadyH.nil)
        go_simp
        refine hK.out _ _ ⟨hx1.cell, hx2.cell⟩ (fun hH => ?_)
        try simp only [Act.put, List.setIfInBounds_toArray, List.set_cons_zero, List.set_cons_succ]
        refine wpAnyH_ready (rs := [9]) (by kernel_rfl) (by simp) ?_
        refine AllReadyH.cons (i := 9) rfl (fun K hK => ?_) (AllReadyH.nil)
        go_simp
        refine hK.out _ _ ⟨hy1.cell, hy2.cell⟩ (fun hH => ?_)
        try simp only [Act.put, List.setIfInBounds_toArray, List.set_cons_zero, List.set_cons_succ]
        refine wpAnyH_done (by kernel_rfl) ?_ _
        exact ⟨(keepsOthers_below hbW2).trans hk2, (hbW2.mono (by omega)).trans hbb, ⟨⟨_, hv2, by rw [HSN.out]; simpa using hown_set hown3 hv1, trivial⟩, hy1, hy2, hB.trans ((hbW2.mono (by omega)).trans hbb), by simpa using hsz3⟩⟩
      · go_simp
        go_at_call 64
        refine (CV.out _).mono ?_
        rintro e w2 ⟨rfl, hb2⟩
        have hbW2 := Bt hbW1 hb2
        have hd4 := cell_bt (w := W) hc3 hbW2
        obtain ⟨v3, w3, hrun3, hown3, hgrow3, _, _⟩ := AP.out w2 ce (row_below HR.out hbW2) (Nat.le_trans hsW hbW2.size)
        obtain ⟨g', cap', rfl⟩ := ownsRow_succ hown3
        obtain ⟨hv1, hv2, hr2, hk2, hbb⟩ := (boxed_below HV.out hbW2).appended (by decide) (row_mono (row_below HR.out hbW2) (Nat.le_add_right _ 4)) (Nat.le_trans (by omega) hbW2.size) (by omega) (row_mono hown3 (Nat.le_add_right _ 4)) hgrow3
        have hx1 := ((boxed_below b1 hbW2).alloc (.cells #[.string ce] 9)).kept hgrow3 (row_other HR.out (by omega))
        have hx2 := ((boxed_below b2 hbW2).alloc (.cells #[.string ce] 9)).kept hgrow3 (row_other HR.out (by omega))
        have hy1 := hx1.other (B' := w.heap.size + 1 + 1) (by omega) (.slice (some ⟨g', 0, none⟩) (sl.length + 1) cap')
        have hy2 := hx2.other (B' := w.heap.size + 1 + 1) (by omega) (.slice (some ⟨g', 0, none⟩) (sl.length + 1) cap')
        have hd6 := ((boxed_below HV.out hbW2).alloc (.cells #[.string ce] 9)).cell
        have hc5 := hv1.cell
        have hf5 := hv1.frozen
        have hsz3 : w.heap.size + 4 ≤ w3.heap.size := by
          have := hgrow3.size
          have := hbW2.size
          simp at *
          omega
        try dsimp only
        refine hK.out _ _ ⟨cell_bt (w := W) hc1 hbW2, cell_bt (w := W) hc2 hbW2⟩ (fun hH => ?_)
        try simp only [Act.put, List.setIfInBounds_toArray, List.set_cons_zero, List.set_cons_succ]
        refine wpAnyH_ready (rs := [0, 7]) (by kernel_rfl) (by simp) ?_
        refine AllReadyH.cons (i := 0) rfl (fun K hK => ?_) (AllReadyH.cons (i := 7) rfl (fun K hK => ?_) (AllReadyH.nil))
        · go_simp
          refine hK.out _ _ hH (fun hH => ?_)
          try simp only [Act.put, List.setIfInBounds_toArray, List.set_cons_zero, List.set_cons_succ]
          refine wpAnyH_ready (rs := [7]) (by kernel_rfl) (by simp) ?_
          refine AllReadyH.cons (i := 7) rfl (fun K hK => ?_) (AllReadyH.nil)
          go_simp
          refine hK.out _ _ ⟨((boxed_below b1 hbW2).alloc _).cell, ((boxed_below b2 hbW2).alloc _).cell⟩ (fun hH => ?_)
          try simp only [Act.put, List.setIfInBounds_toArray, List.set_cons_zero, List.set_cons_succ]
          refine wpAnyH_ready (rs := [8]) (by kernel_rfl) (by simp) ?_
          refine AllReadyH.cons (i := 8) rfl (fun K hK => ?_) (AllReadyH.nil)
          go_simp
          refine hK.out _ _ ⟨hx1.cell, hx2.cell⟩ (fun hH => ?_)
          try simp only [Act.put, List.setIfInBounds_toArray, List.set_cons_zero, List.set_cons_succ]
          refine wpAnyH_ready (rs := [9]) (by kernel_rfl) (by simp) ?_
          refine AllReadyH.cons (i := 9) rfl (fun K hK => ?_) (AllReadyH.nil)
          go_simp
          refine hK.out _ _ ⟨hy1.cell, hy2.cell⟩ (fun hH => ?_)
          try simp only [Act.put, List.setIfInBounds_toArray, List.set_cons_zero, List.set_cons_succ]
          refine wpAnyH_done (by kernel_rfl) ?_ _
          exact ⟨(keepsOthers_below hbW2).trans hk2, (hbW2.mono (by omega)).trans hbb, ⟨⟨_, hv2, by rw [HSN.out]; simpa using hown_set hown3 hv1, trivial⟩, hy1, hy2, hB.trans ((hbW2.mono (by omega)).trans hbb), by simpa using hsz3⟩⟩
        · go_simp
          refine hK.out _ _ ⟨((boxed_below b1 hbW2).alloc _).cell, ((boxed_below b2 hbW2).alloc _).cell⟩ (fun hH => ?_)
          try simp only [Act.put, List.setIfInBounds_toArray, List.set_cons_zero, List.set_cons_succ]
          refine wpAnyH_ready (rs := [0]) (by kernel_rfl) (by simp) ?_
          refine AllReadyH.cons (i := 0) rfl (fun K hK => ?_) (AllReadyH.nil)
          go_simp
          refine hK.out _ _ hH (fun hH => ?_)
          try simp only [Act.put, List.setIfInBounds_toArray, List.set_cons_zero, List.set_cons_succ]
          refine wpAnyH_ready (rs := [8]) (by kernel_rfl) (by simp) ?_
          refine AllReadyH.cons (i := 8) rfl (fun K hK => ?_) (AllReadyH.nil)
          go_simp
          refine hK.out _ _ ⟨hx1.cell, hx2.cell⟩ (fun hH => ?_)
          try simp only [Act.put, List.setIfInBounds_toArray, List.set_cons_zero, List.set_cons_succ]
          refine wpAnyH_ready (rs := [9]) (by kernel_rfl) (by simp) ?_
          refine AllReadyH.cons (i := 9) rfl (fun K hK => ?_) (AllReadyH.nil)
          go_simp
          refine hK.out _ _ ⟨hy1.cell, hy2.cell⟩ (fun hH => ?_)
          try simp only [Act.put, List.setIfInBounds_toArray, List.set_cons_zero, List.set_cons_succ]
          refine wpAnyH_done (by kernel_rfl) ?_ _
          exact ⟨(keepsOthers_below hbW2).trans hk2, (hbW2.mono (by omega)).trans hbb, ⟨⟨_, hv2, by rw [HSN.out]; simpa using hown_set hown3 hv1, trivial⟩, hy1, hy2, hB.trans ((hbW2.mono (by omega)).trans hbb), by simpa using hsz3⟩⟩
  case done =>
    rintro D ys W hD hys ⟨⟨v, hv, hrow, _⟩, b1, b2, hB, hsW⟩ hK
    have hl : sigL s i ys = (digs18 m).map fun p => Se.ch (Se.start s i p.1) p.2 := by rw [← hys, List.map_map]; rfl
    rw [hl] at hrow
    have hc := hv.cell
    gi_wp2
    refine ⟨by simp, .inl ⟨_, _, rfl, run_takeDeferred hK, ?_⟩⟩
    exact ⟨_, results_tmp rfl _ _ _, v, rfl, row_mono (ownsRow_putObj hrow _ hK rfl) (Nat.le_add_right _ 4), hB.trans (belowK_b (w := w) (Nat.le_refl _) W D _ _ (by omega) hK rfl rfl)⟩
  case stop =>
    rintro D c pre W _ _ h _
    exact h.elim
end Go.Proofs.YtdlmbpoihnifiaaDoor
