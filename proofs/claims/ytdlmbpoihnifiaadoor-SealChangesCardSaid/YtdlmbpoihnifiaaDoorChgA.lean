/- P3.3: two lists copied into new ones, in any order: what holds of both and of the box. -/
import Derived.Test.YtdlmbpoihnifiaaDoorSeW
import Derived.Test.YtdlmbpoihnifiaaDoorSeI
namespace Go.Proofs.YtdlmbpoihnifiaaDoor
open Go.RowKit
set_option linter.unusedSimpArgs false
set_option linter.unusedVariables false

/-- Two lists of one's own (none before they are made), and a new struct, since the world wS. -/
structure Tri (wS w : World) (u : Value) (lu : List ByteArray) (v : Value) (lv : List ByteArray) (L : Option Nat) : Prop where
  below : Below wS.heap.size wS w
  size : wS.heap.size ≤ w.heap.size
  ou : OwnS w wS.heap.size u lu
  ov : OwnS w wS.heap.size v lv
  uv : Dj u v
  box : ∀ g, L = some g → wS.heap.size ≤ g ∧ Boxed3 w g (.int .i64 0) (.slice none 0 0) (.slice none 0 0) ∧ u.ownBlock ≠ some g ∧ v.ownBlock ≠ some g

theorem Tri.start (wS : World) : Tri wS wS (.slice none 0 0) [] (.slice none 0 0) [] none :=
  ⟨Below.refl _ _, Nat.le_refl _, OwnS.nil _ _, OwnS.nil _ _, Dj.nil _, fun g hg => by cases hg⟩
theorem Tri.swap {wS w : World} {u v : Value} {lu lv : List ByteArray} {L : Option Nat} (T : Tri wS w u lu v lv L) : Tri wS w v lv u lu L :=
  ⟨T.below, T.size, T.ov, T.ou, T.uv.symm, fun g hg => by obtain ⟨a, b, c, d⟩ := T.box g hg; exact ⟨a, b, d, c⟩⟩
theorem Tri.drew {wS w : World} {u v : Value} {lu lv : List ByteArray} {L : Option Nat} (T : Tri wS w u lu v lv L) : Tri wS w.drew u lu v lv L :=
  ⟨T.below.drew, T.size, T.ou, T.ov, T.uv, T.box⟩
theorem Tri.newU {wS w : World} {v : Value} {lv : List ByteArray} {L : Option Nat} (T : Tri wS w (.slice none 0 0) [] v lv L) (g : Nat) (hg : w.heap.size = g) : Tri wS (w.alloc (.cells #[] 9)) (.slice (some ⟨g, 0, none⟩) 0 0) [] v lv L := by
  subst hg
  have ha := (Below.refl w.heap.size w).alloc (Nat.le_refl _) (.cells #[] 9)
  refine ⟨T.below.alloc T.size _, by rw [World.size_alloc]; have := T.size; omega, own_zero w _ T.size, own_below T.ov ha, fun g h1 h2 => ?_, fun g hg => ?_⟩
  · have h3 := (OwnS.lt T.ov g h2).2
    simp [Value.ownBlock] at h1
    omega
  · obtain ⟨a, b, c, d⟩ := T.box g hg
    have hl := b.lt
    refine ⟨a, b.bt ha, ?_, d⟩
    simp [Value.ownBlock]
    omega
theorem Tri.newV {wS w : World} {u : Value} {lu : List ByteArray} {L : Option Nat} (T : Tri wS w u lu (.slice none 0 0) [] L) (g : Nat) (hg : w.heap.size = g) : Tri wS (w.alloc (.cells #[] 9)) u lu (.slice (some ⟨g, 0, none⟩) 0 0) [] L := (T.swap.newU g hg).swap
theorem Tri.newL {wS w : World} {u v : Value} {lu lv : List ByteArray} (T : Tri wS w u lu v lv none) (g : Nat) (hg : w.heap.size = g) : Tri wS (w.alloc (.cells #[.int .i64 0, .slice none 0 0, .slice none 0 0] 24)) u lu v lv (some g) := by
  subst hg
  have ha := (Below.refl w.heap.size w).alloc (Nat.le_refl _) (.cells #[.int .i64 0, .slice none 0 0, .slice none 0 0] 24)
  refine ⟨T.below.alloc T.size _, by rw [World.size_alloc]; have := T.size; omega, own_below T.ou ha, own_below T.ov ha, T.uv, fun g hg => ?_⟩
  cases hg
  refine ⟨T.size, Boxed3.new w _ _ _, fun h => ?_, fun h => ?_⟩
  · exact absurd (OwnS.lt T.ou _ h).2 (by omega)
  · exact absurd (OwnS.lt T.ov _ h).2 (by omega)
theorem Tri.appU {wS w : World} {u v : Value} {lv : List ByteArray} {L : Option Nat} (T : Tri wS w u [] v lv L) {sv : Value} {BS : Nat} {sl : List ByteArray} (hs : OwnS wS BS sv sl) (hl : sl.length ≤ 1000) :
    ∃ u' w', (Builtin.append_ #[22, 22] 22 #[u, sv]).run Tryd.prog w = .ok u' w' ∧ Tri wS w' u' sl v lv L := by
  obtain ⟨u', w', hr, d⟩ := run_append4 w wS.heap.size u [] T.ou sv BS sl (own_below hs T.below) (by simp; omega) T.size 22
  refine ⟨u', w', hr, T.below.trans d.below, Nat.le_trans T.size (Nat.le_trans (Nat.le_refl _) d.grown.size), d.own, own_apart d T.ov T.uv.symm, (dj_app d T.ov T.uv.symm).symm, fun g hg => ?_⟩
  obtain ⟨a, b, c, e⟩ := T.box g hg
  have hlt := b.lt
  refine ⟨a, (d.grown.block g hlt (fun h => c h.symm)).trans b, ?_, e⟩
  rcases d.blk with h | h
  · rw [h]; exact c
  · rw [h]; intro h2; cases h2; omega
theorem Tri.appV {wS w : World} {u v : Value} {lu : List ByteArray} {L : Option Nat} (T : Tri wS w u lu v [] L) {sv : Value} {BS : Nat} {sl : List ByteArray} (hs : OwnS wS BS sv sl) (hl : sl.length ≤ 1000) :
    ∃ v' w', (Builtin.append_ #[22, 22] 22 #[v, sv]).run Tryd.prog w = .ok v' w' ∧ Tri wS w' u lu v' sl L := by
  obtain ⟨v', w', hr, T'⟩ := T.swap.appU hs hl
  exact ⟨v', w', hr, T'.swap⟩

/-- The new seal: its box, and its lists. -/
structure Bad (wS wx : World) (g : Nat) (i : Int) (u : Value) (lu : List ByteArray) (v : Value) (lv : List ByteArray) : Prop where
  below : Below wS.heap.size wS wx
  ge : wS.heap.size ≤ g
  box : Boxed3 wx g (.int .i64 i) u v
  ou : OwnS wx wS.heap.size u lu
  ov : OwnS wx wS.heap.size v lv
  uv : Dj u v
  ug : u.ownBlock ≠ some g
  vg : v.ownBlock ≠ some g
theorem Bad.drew {wS wx : World} {g : Nat} {i : Int} {u v : Value} {lu lv : List ByteArray} (T : Bad wS wx g i u lu v lv) : Bad wS wx.drew g i u lu v lv :=
  ⟨T.below.drew, T.ge, T.box, T.ou, T.ov, T.uv, T.ug, T.vg⟩
theorem own_setO {w : World} {B b o : Nat} {v u : Value} {l : List ByteArray} (h : OwnS w B v l) (hb : v.ownBlock ≠ some b) : OwnS (w.setCell ⟨b, o, none⟩ u) B v l := by
  have h' : w.ownsRow B 9 1 v l.length (l.map Value.string) := h
  refine h'.kept (grownBy_setAt w b o u) ?_
  cases e : v.ownBlock with
  | none => exact .inl rfl
  | some g => exact .inr (fun e2 => hb (e.trans e2))
theorem Tri.store {wS w : World} {u v : Value} {lu lv : List ByteArray} {g : Nat} (T : Tri wS w u lu v lv (some g)) (i : Int) : Bad wS (((w.setCell ⟨g, 0, none⟩ (.int .i64 i)).setCell ⟨g, 1, none⟩ u).setCell ⟨g, 2, none⟩ v) g i u lu v lv := by
  obtain ⟨a, b, c, d⟩ := T.box g rfl
  exact ⟨below_set3 T.below a, a, b.set _ _ _, own_setO (own_setO (own_setO T.ou c) c) c, own_setO (own_setO (own_setO T.ov d) d) d, T.uv, c, d⟩
theorem Tri.last {wS w : World} {u v : Value} {lu lv : List ByteArray} (T : Tri wS w u lu v lv none) (i : Int) : Bad wS (w.alloc (.cells #[.int .i64 i, u, v] 24)) w.heap.size i u lu v lv := by
  have ha := (Below.refl w.heap.size w).alloc (Nat.le_refl _) (.cells #[.int .i64 i, u, v] 24)
  refine ⟨T.below.alloc T.size _, T.size, Boxed3.new w _ _ _, own_below T.ou ha, own_below T.ov ha, T.uv, fun h => ?_, fun h => ?_⟩
  · exact absurd (OwnS.lt T.ou _ h).2 (by omega)
  · exact absurd (OwnS.lt T.ov _ h).2 (by omega)
theorem Bad.keep {wS w : World} {g : Nat} {i : Int} {u v : Value} {lu lv : List ByteArray} (T : Bad wS w g i u lu v lv) {b : Nat} {x y z : Value} (hx : Boxed3 wS b x y z) :
    w.cell? ⟨b, 0, none⟩ = some x ∧ w.cell? ⟨b, 1, none⟩ = some y ∧ w.cell? ⟨b, 2, none⟩ = some z := by
  obtain ⟨a, b, c, _, _, _⟩ := (hx.bt T.below).cells
  exact ⟨a, b, c⟩
theorem Tri.addU {wS w : World} {u v : Value} {lv : List ByteArray} {L : Option Nat} (T : Tri wS w u [] v lv L) {sv : Value} {BS : Nat} {sl : List ByteArray} (hs : OwnS wS BS sv sl) {n : Nat} (hn : sl.length = n) (hl : n ≤ 1000) :
    ∃ A c w', (Builtin.append_ #[22, 22] 22 #[u, sv]).run Tryd.prog w = .ok (.slice A n c) w' ∧ Tri wS w' (.slice A n c) sl v lv L := by
  subst hn
  obtain ⟨u', w', hr, T'⟩ := T.appU hs hl
  obtain ⟨A, c, rfl, _, _, _⟩ := T'.ou.form
  exact ⟨A, c, w', hr, T'⟩
theorem Tri.addV {wS w : World} {u v : Value} {lu : List ByteArray} {L : Option Nat} (T : Tri wS w u lu v [] L) {sv : Value} {BS : Nat} {sl : List ByteArray} (hs : OwnS wS BS sv sl) {n : Nat} (hn : sl.length = n) (hl : n ≤ 1000) :
    ∃ A c w', (Builtin.append_ #[22, 22] 22 #[v, sv]).run Tryd.prog w = .ok (.slice A n c) w' ∧ Tri wS w' u lu (.slice A n c) sl L := by
  obtain ⟨A, c, w', hr, T'⟩ := T.swap.addU hs hn hl
  exact ⟨A, c, w', hr, T'.swap⟩
theorem sign_own (s m : ByteArray) (h i : Nat) (w : World) (hs : s.size ≤ 1000000000) (hm : m.size ≤ maxLen) (hh : h ≤ 8) (hi : i < 2 ^ h) (hp : Pow w.heap.size w) :
    Calls Tryd.prog 15 #[.string s, .int .i64 (h : Int), .int .i64 (i : Int), .string m] w fun e w' => ∃ A1 A2 c1 c2, e = .returned (.tuple #[.agg #[.int .i64 (i : Int), .slice A1 18 c1, .slice A2 h c2], .int .i64 0]) ∧ OwnS w' w.heap.size (.slice A1 18 c1) (Se.sig s i m) ∧ OwnS w' w.heap.size (.slice A2 h c2) (Tr.path (Se.keys s h) i) ∧ Strs w' w'.heap.size A1 (Se.sig s i m) ∧ Strs w' w'.heap.size A2 (Tr.path (Se.keys s h) i) ∧ 18 ≤ c1 ∧ c1 ≤ maxLen ∧ h ≤ c2 ∧ c2 ≤ maxLen ∧ Below w.heap.size w w' := by
  refine (Sign_ok s m h i w hs hm hh hi hp).mono fun e w' hg => ?_
  obtain ⟨v1, v2, rfl, h1, h2, hb⟩ := hg
  obtain ⟨A1, c1, rfl, s1, l1, m1⟩ := h1.form
  obtain ⟨A2, c2, rfl, s2, l2, m2⟩ := h2.form
  rw [Se.sig_length] at h1 l1 ⊢
  rw [path_len s h i hi] at h2 l2 ⊢
  exact ⟨A1, A2, c1, c2, rfl, h1, h2, s1, s2, l1, m1, l2, m2, hb⟩
theorem Tri.keep {wS w : World} {u v : Value} {lu lv : List ByteArray} {L : Option Nat} (T : Tri wS w u lu v lv L) {b : Nat} {x y z : Value} (hx : Boxed3 wS b x y z) :
    w.cell? ⟨b, 0, none⟩ = some x ∧ w.cell? ⟨b, 1, none⟩ = some y ∧ w.cell? ⟨b, 2, none⟩ = some z := by
  obtain ⟨a, b, c, _, _, _⟩ := (hx.bt T.below).cells
  exact ⟨a, b, c⟩
/-- Another text in the place k of a list of one's own. -/
theorem own_put {w : World} {B : Nat} {A : Option Addr} {n c : Nat} {l : List ByteArray} (h : OwnS w B (.slice A n c) l) (hn : l.length = n) (k : Nat) (hk : k < n) (y : ByteArray) :
    ∃ g, A = some ⟨g, 0, none⟩ ∧ B ≤ g ∧ w.cell? ⟨g, k, none⟩ = some (.string (l.getD k ByteArray.empty)) ∧ w.frozen? ⟨g, k, none⟩ = false ∧ OwnS (w.setCell ⟨g, k, none⟩ (.string y)) B (.slice (some ⟨g, 0, none⟩) n c) (l.set k y) ∧ w.grownBy (w.setCell ⟨g, k, none⟩ (.string y)) (some g) := by
  obtain ⟨g, c', e, hc⟩ := OwnS.at h k (by omega)
  simp only [Value.slice.injEq] at e
  obtain ⟨rfl, e2, rfl⟩ := e
  have h' : w.ownsRow B 9 1 (.slice (some ⟨g, 0, none⟩) n c) n (l.map Value.string) := by
    have := h
    unfold OwnS at this
    rwa [hn] at this
  have hs := World.ownsRow.stored h' k (.string y)
  refine ⟨g, rfl, (OwnS.lt h g rfl).1, hc, World.ownsRow.frozenAt h' k, ?_, hs.2⟩
  unfold OwnS
  rw [List.length_set, hn, List.map_set]
  exact hs.1
/-- The new seal with another text in its first list. -/
theorem Bad.putU {wS wx : World} {g n c : Nat} {i : Int} {A : Option Addr} {lu lv : List ByteArray} {v : Value} (T : Bad wS wx g i (.slice A n c) lu v lv) (hn : lu.length = n) (k : Nat) (hk : k < n) (y : ByteArray) :
    ∃ b, A = some ⟨b, 0, none⟩ ∧ wx.cell? ⟨b, k, none⟩ = some (.string (lu.getD k ByteArray.empty)) ∧ wx.frozen? ⟨b, k, none⟩ = false ∧ Bad wS (wx.setCell ⟨b, k, none⟩ (.string y)) g i (.slice (some ⟨b, 0, none⟩) n c) (lu.set k y) v lv := by
  obtain ⟨b, rfl, hb, hc, hf, ho, hg⟩ := own_put T.ou hn k hk y
  have hne : g ≠ b := fun e => T.ug (by simp [Value.ownBlock, e])
  refine ⟨b, rfl, hc, hf, T.below.grown hg (Nat.le_trans T.below.size (by have := T.box.lt; exact Nat.le_refl _)) (fun k hk => ?_), T.ge, (hg.block g T.box.lt (fun e => hne (by simpa using e))).trans T.box, ho, ?_, T.uv, T.ug, T.vg⟩
  · cases hk; exact hb
  · have h2 : wx.ownsRow wS.heap.size 9 1 v lv.length (lv.map Value.string) := T.ov
    refine h2.kept hg ?_
    cases e : v.ownBlock with
    | none => exact .inl rfl
    | some q => exact .inr (fun e2 => T.uv b (by simp [Value.ownBlock]) (e.trans e2))
theorem Bad.putV {wS wx : World} {g n c : Nat} {i : Int} {A : Option Addr} {lu lv : List ByteArray} {u : Value} (T : Bad wS wx g i u lu (.slice A n c) lv) (hn : lv.length = n) (k : Nat) (hk : k < n) (y : ByteArray) :
    ∃ b, A = some ⟨b, 0, none⟩ ∧ wx.cell? ⟨b, k, none⟩ = some (.string (lv.getD k ByteArray.empty)) ∧ wx.frozen? ⟨b, k, none⟩ = false ∧ Bad wS (wx.setCell ⟨b, k, none⟩ (.string y)) g i u lu (.slice (some ⟨b, 0, none⟩) n c) (lv.set k y) := by
  obtain ⟨b, rfl, hb, hc, hf, ho, hg⟩ := own_put T.ov hn k hk y
  have hne : g ≠ b := fun e => T.vg (by simp [Value.ownBlock, e])
  refine ⟨b, rfl, hc, hf, T.below.grown hg (Nat.le_trans T.below.size (by have := T.box.lt; exact Nat.le_refl _)) (fun k hk => ?_), T.ge, (hg.block g T.box.lt (fun e => hne (by simpa using e))).trans T.box, ?_, ho, T.uv, T.ug, T.vg⟩
  · cases hk; exact hb
  · have h2 : wx.ownsRow wS.heap.size 9 1 u lu.length (lu.map Value.string) := T.ou
    refine h2.kept hg ?_
    cases e : u.ownBlock with
    | none => exact .inl rfl
    | some q => exact .inr (fun e2 => T.uv b (e.trans e2) (by simp [Value.ownBlock]))
/-- The new seal with another index. -/
theorem Bad.putI {wS wx : World} {g : Nat} {i : Int} {lu lv : List ByteArray} {u v : Value} (T : Bad wS wx g i u lu v lv) (j : Int) : Bad wS (wx.setCell ⟨g, 0, none⟩ (.int .i64 j)) g j u lu v lv := by
  have hb : Boxed3 (wx.setCell ⟨g, 0, none⟩ (.int .i64 j)) g (.int .i64 j) u v := by
    have := heap_setCell_same wx g 0 #[.int .i64 i, u, v] 24 (.int .i64 j) T.box
    simpa [Boxed3] using this
  refine ⟨T.below.trans ?_, T.ge, hb, own_setO T.ou T.ug, own_setO T.ov T.vg, T.uv, T.ug, T.vg⟩
  exact (Below.refl _ _).grown (grownBy_setAt wx g 0 _) T.below.size (fun k hk => by cases hk; exact T.ge)
theorem own_strs {w : World} {B : Nat} {A : Option Addr} {n c : Nat} {l : List ByteArray} (h : OwnS w B (.slice A n c) l) : Strs w w.heap.size A l ∧ n ≤ c ∧ c ≤ maxLen := by
  obtain ⟨A', c', e, hs, h1, h2⟩ := h.form
  simp only [Value.slice.injEq] at e
  obtain ⟨rfl, rfl, rfl⟩ := e
  exact ⟨hs, h1, h2⟩
theorem chg_key {s m : ByteArray} {h i j : Nat} {l1 l2 : List ByteArray} (hi : i < 2 ^ h) (hj : j < 2 ^ h) (hc : j = i ∨ l1 = Se.sig s i m) :
    decide ((j : Int) = (i : Int) ∧ l1 = Se.sig s i m ∧ l2 = Tr.path (Se.keys s h) i) = true ∨ vf (pub s h) m j l1 l2 = false ∨ Tr.Shown (Se.made s h 15 ++ Se.checked m j l1 l2) := by
  cases hv : vf (pub s h) m j l1 l2 with
  | false => exact .inr (.inl rfl)
  | true =>
    obtain ⟨h18, h8, _, _, q, e, hq, hu⟩ := vf_parts hv
    obtain rfl : j = q := by omega
    rcases Se.sound (s := s) (m := m) (h := h) (i := j) h18 hq hu with ⟨_, e2, e3⟩ | hs
    · by_cases hji : j = i
      · subst hji
        exact .inl (decide_eq_true ⟨rfl, e2, e3⟩)
      · rcases hc with hc | hc
        · exact absurd hc hji
        · refine .inr (.inr ((Se.other_index (n := 15) (by omega) hi hj (fun h => hji h.symm) (hc.symm.trans e2)).mono fun x hx => List.mem_append.2 (.inl hx)))
    · exact .inr (.inr hs)
theorem chg_set_le {l : List ByteArray} {n k : Nat} {x : ByteArray} (h : ∀ s ∈ l, s.size ≤ n) (hx : x.size ≤ n) : ∀ s ∈ l.set k x, s.size ≤ n := fun s hs => by
  rcases List.mem_or_eq_of_mem_set hs with h1 | h1
  · exact h s h1
  · subst h1; exact hx
end Go.Proofs.YtdlmbpoihnifiaaDoor
