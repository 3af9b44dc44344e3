/- Layer 10: rules in another order, and a further rule. -/
import Derived.Test.YtkddpealobeleaaGreatDoorRwOw
import Derived.Sort.Walk0
set_option linter.unusedSimpArgs false
set_option linter.unusedVariables false
namespace Go.Proofs.YtkddpealobeleaaGreatDoor
open Go.RowKit Go.Shelf
set_option maxRecDepth 100000
set_option maxHeartbeats 4000000
theorem Rw.same_symm (x y : Rw.Rl) : x.same y = y.same x := by
  unfold Rw.Rl.same
  rw [decide_eq_decide.2 (eq_comm : x.k = y.k ↔ _), decide_eq_decide.2 (eq_comm : x.frm = y.frm ↔ _), decide_eq_decide.2 (eq_comm : x.to = y.to ↔ _)]
theorem Rw.oks_iff (l : List Rw.Rl) : Rw.oksRl l = true ↔ (∀ x ∈ l, Rw.okRl x = true) ∧ l.Pairwise (fun a b => a.same b = false) := by
  unfold Rw.oksRl
  rw [decide_eq_true_eq, List.pairwise_iff_getElem]
  constructor
  · intro h
    refine ⟨fun x hx => ?_, fun i j hi hj hij => ?_⟩
    · obtain ⟨i, hi, rfl⟩ := List.getElem_of_mem hx
      exact (h i hi).1
    · have h2 := (h j hj).2
      cases hs : Rw.Rl.same l[i] l[j] with
      | false => rfl
      | true =>
        have : Rw.hasRl (l.take j) l[j] = true := (Rw.has_iffRl _ _).2 ⟨l[i], by rw [List.mem_take_iff_getElem]; exact ⟨i, by omega, rfl⟩, hs⟩
        rw [h2] at this
        cases this
  · rintro ⟨h1, h2⟩ i hi
    refine ⟨h1 _ (List.getElem_mem _), ?_⟩
    cases hs : Rw.hasRl (l.take i) l[i] with
    | false => rfl
    | true =>
      obtain ⟨y, hy, hys⟩ := (Rw.has_iffRl _ _).1 hs
      obtain ⟨j, hj, rfl⟩ := List.mem_take_iff_getElem.1 hy
      have := h2 j i (by omega) hi (by omega)
      rw [hys] at this
      cases this
theorem Rw.oks_rev (l : List Rw.Rl) : Rw.oksRl l.reverse = Rw.oksRl l := by
  rw [Bool.eq_iff_iff, Rw.oks_iff, Rw.oks_iff, List.pairwise_reverse]
  refine and_congr ⟨fun h x hx => h x (List.mem_reverse.2 hx), fun h x hx => h x (List.mem_reverse.1 hx)⟩ ?_
  exact ⟨fun h => h.imp fun {a b} hab => by rw [Rw.same_symm]; exact hab, fun h => h.imp fun {a b} hab => by rw [Rw.same_symm]; exact hab⟩
/-- The same table with its rules in the opposite order. -/
theorem Rw.okT_rev (A A' B C : Option Addr) (a a' b c : Nat) (R : List Rw.Rl) (D E : List Rw.Dp) (d o i : Int) : Rw.okT ⟨A', a', B, b, C, c, R.reverse, D, E, d, o, i⟩ = Rw.okT ⟨A, a, B, b, C, c, R, D, E, d, o, i⟩ := by
  unfold Rw.okT
  simp only [List.length_reverse, Rw.oks_rev]
theorem Rw.mem_rus {k : Int} {R : List Rw.Rl} {r : Rw.Ru} : r ∈ Rw.rus k R ↔ ∃ x ∈ R, x.k = k ∧ Rw.ru x = r := by
  unfold Rw.rus
  rw [List.mem_map]
  constructor
  · rintro ⟨x, hx, rfl⟩
    obtain ⟨h1, h2⟩ := List.mem_filter.1 hx
    exact ⟨x, h1, by simpa using h2, rfl⟩
  · rintro ⟨x, hx, hk, rfl⟩
    exact ⟨x, List.mem_filter.2 ⟨hx, by simpa using hk⟩, rfl⟩
theorem Rw.rus_rev {k : Int} {R : List Rw.Rl} (r : Rw.Ru) : r ∈ Rw.rus k R.reverse ↔ r ∈ Rw.rus k R := by simp only [Rw.mem_rus, List.mem_reverse]
theorem Rw.rus_other {k : Int} {R : List Rw.Rl} {u : Rw.Rl} (hu : u.k ≠ k) (r : Rw.Ru) : r ∈ Rw.rus k (R.reverse ++ [u]) ↔ r ∈ Rw.rus k R := by
  simp only [Rw.mem_rus, List.mem_append, List.mem_reverse, List.mem_singleton]
  constructor
  · rintro ⟨x, hx | rfl, hk, e⟩
    · exact ⟨x, hx, hk, e⟩
    · exact absurd hk hu
  · rintro ⟨x, hx, hk, e⟩
    exact ⟨x, .inl hx, hk, e⟩
theorem Rw.rus_sub {k : Int} {R : List Rw.Rl} {u : Rw.Rl} : ∀ r ∈ Rw.rus k R, r ∈ Rw.rus k (R.reverse ++ [u]) := fun r => by
  simp only [Rw.mem_rus, List.mem_append, List.mem_reverse, List.mem_singleton]
  rintro ⟨x, hx, hk, e⟩
  exact ⟨x, .inl hx, hk, e⟩
theorem Rw.Gi.turn {t t' : Rw.TV} {k : Int} {x : ByteArray} {most : Int} {c : Int} {ss : List ByteArray} {ms : List Int} (h : Rw.Gi t' k x most c ss ms) (hL : Rw.isL t' k x = Rw.isL t k x) (hr : ∀ r, r ∈ Rw.rus k t'.R ↔ r ∈ Rw.rus k t.R) : Rw.Gi t k x most c ss ms := by
  rcases h with ⟨a1, a2⟩ | ⟨a1, a2, a3⟩ | ⟨a1, fs, a2, a3⟩
  · exact .inl ⟨by rw [← hL]; exact a1, a2⟩
  · exact .inr (.inl ⟨by rw [← hL]; exact a1, a2.congr hr, a3⟩)
  · exact .inr (.inr ⟨by rw [← hL]; exact a1, fs, a2.congr hr, a3⟩)
/-- The errors, of a table and of one with more rules. -/
theorem Rw.Gi.errs {t t' : Rw.TV} {k : Int} {x : ByteArray} {most : Int} {c c' : Int} {ss ss' : List ByteArray} {ms ms' : List Int} (h : Rw.Gi t k x most c ss ms) (h' : Rw.Gi t' k x most c' ss' ms') (hL : Rw.isL t' k x = Rw.isL t k x) (hr : ∀ r ∈ Rw.rus k t.R, r ∈ Rw.rus k t'.R) :
    (c = 0 ∧ (c' = 0 ∨ c' = 2)) ∨ (c ≠ 0 ∧ c' = c) := by
  rcases h with ⟨a1, rfl, _⟩ | ⟨a1, a2, rfl, _⟩ | ⟨a1, fs, a2, a3, _, _, rfl, _⟩ <;> rcases h' with ⟨b1, rfl, _⟩ | ⟨b1, b2, rfl, _⟩ | ⟨b1, gs, b2, b3, _, _, rfl, _⟩
  · exact .inr ⟨by decide, rfl⟩
  · rw [hL, a1] at b1; cases b1
  · rw [hL, a1] at b1; cases b1
  · rw [hL, a1] at b1; cases b1
  · exact .inr ⟨by decide, rfl⟩
  · have := (a2.more hr (Int.le_refl _)).not b2
    omega
  · rw [hL, a1] at b1; cases b1
  · exact .inl ⟨rfl, .inr rfl⟩
  · exact .inl ⟨rfl, .inl rfl⟩
theorem Rw.Gi.bad {t : Rw.TV} {k : Int} {x : ByteArray} {most : Int} {c : Int} {ss : List ByteArray} {ms : List Int} (h : Rw.Gi t k x most c ss ms) (ho : Rw.okT t = false) : c = 1 := by
  have hL : Rw.isL t k x = false := by unfold Rw.isL; rw [ho, Bool.false_and]
  rcases h with ⟨_, e, _⟩ | ⟨e, _⟩ | ⟨e, _⟩
  · exact e
  · rw [hL] at e; cases e
  · rw [hL] at e; cases e
theorem Rw.less_eq (x y : ByteArray) : Op.bytesLess x.toList y.toList = decide (x.data.toList < y.data.toList) := by
  rw [bytesLess_eq, ByteArray.toList_eq, ByteArray.toList_eq]
/-- Forms in order. -/
def Rw.Ord (ss : List ByteArray) : Prop := ∀ i j (hi : i < ss.length) (hj : j < ss.length), i < j → ss[i].data.toList < ss[j].data.toList
theorem Rw.ord_of {R : List Rw.Ru} {l : List Nm.T} {most : Int} {fs : Rw.Mp} (h : Rw.Are R l most fs) : Rw.Ord (fs.map fun y => Nm.bt y.1) := fun i j hi hj hij => by
  have h1 := h.inc
  rw [List.pairwise_map, List.pairwise_iff_getElem] at h1
  rw [List.length_map] at hi hj
  rw [List.getElem_map, List.getElem_map, Nm.bt_list, Nm.bt_list]
  exact h1 i j hi hj hij
/-- What is not lost. -/
theorem Rw.Gi.kept {t t' : Rw.TV} {k : Int} {x : ByteArray} {most : Int} {ss ts : List ByteArray} {ms ns : List Int} (h : Rw.Gi t k x most 0 ss ms) (h' : Rw.Gi t' k x most 0 ts ns) (hr : ∀ r ∈ Rw.rus k t.R, r ∈ Rw.rus k t'.R) :
    Rw.Ord ss ∧ Rw.Ord ts ∧ ∀ i (hi : i < ss.length) (hi2 : i < ms.length), ∃ r, ∃ hr : r < ts.length, ∃ hr2 : r < ns.length, ts[r] = ss[i] ∧ ns[r] ≤ ms[i] := by
  rcases h with ⟨_, e, _⟩ | ⟨_, _, e, _⟩ | ⟨_, fs, a2, _, _, _, _, rfl, rfl⟩
  · omega
  · omega
  rcases h' with ⟨_, e, _⟩ | ⟨_, _, e, _⟩ | ⟨_, gs, b2, _, _, _, _, rfl, rfl⟩
  · omega
  · omega
  refine ⟨Rw.ord_of a2, Rw.ord_of b2, fun i hi hi2 => ?_⟩
  rw [List.length_map] at hi
  obtain ⟨d, hd, hm⟩ := a2.lost hr b2 (f := fs[i].1) (c := fs[i].2) (List.getElem_mem _)
  obtain ⟨r, hr, he⟩ := List.getElem_of_mem hm
  refine ⟨r, by rw [List.length_map]; exact hr, by rw [List.length_map]; exact hr, ?_, ?_⟩
  · rw [List.getElem_map, List.getElem_map, he]
  · rw [List.getElem_map, List.getElem_map, he]
    omega
/-- The forms ahead of place q of the one list are less than those from place i of the other. -/
def Rw.Pre (ss ps : List ByteArray) (i q : Nat) : Prop := ∀ j, j < q → ∀ h : j < ps.length, ∀ i', ∀ h' : i' < ss.length, i ≤ i' → ps[j].data.toList < ss[i'].data.toList
theorem Rw.Pre.step {ss ps : List ByteArray} {i q : Nat} (h : Rw.Pre ss ps i q) (ho : Rw.Ord ss) (hi : i < ss.length) (hq : q < ps.length) (hl : ps[q].data.toList < ss[i].data.toList) : Rw.Pre ss ps i (q + 1) := fun j hj hjp i' hi' hii => by
  rcases Nat.lt_or_ge j q with h1 | h1
  · exact h j h1 hjp i' hi' hii
  · obtain rfl : j = q := by omega
    rcases Nat.lt_or_ge i i' with h2 | h2
    · exact Rw.lt_trans hl (ho i i' hi hi' h2)
    · obtain rfl : i = i' := by omega
      exact hl
theorem Rw.Pre.later {ss ps : List ByteArray} {i q : Nat} (h : Rw.Pre ss ps i q) : Rw.Pre ss ps (i + 1) q := fun j hj hjp i' hi' hii => h j hj hjp i' hi' (by omega)
theorem Rw.Pre.meet {ss ps : List ByteArray} {i q r : Nat} (h : Rw.Pre ss ps i q) (ho : Rw.Ord ps) (hi : i < ss.length) (hq : q < ps.length) (hr : r < ps.length) (he : ps[r] = ss[i]) (hl : ¬ ps[q].data.toList < ss[i].data.toList) : q = r := by
  rcases Nat.lt_trichotomy q r with h1 | h1 | h1
  · exact absurd (by rw [← he]; exact ho q r hq hr h1) hl
  · exact h1
  · have := h r h1 hr i hi (Nat.le_refl _)
    rw [he] at this
    exact absurd this (Rw.lt_irrefl _)
/-- tab_round, and what other blocks hold ahead of the store. -/
theorem Rw.tab_round3 (wr : World) (E B n0 : Nat) (u c1 c2 c3 c4 c5 : Value) (l : List Rw.Rl) (x : Rw.Rl) (hE : Rw.Bx wr E #[u, c1, c2, c3, c4, c5] 25) (hl : Rw.OwnK Rw.KR wr B u l) (hEB : E < B) (hn : n0 ≤ E) (hB : B ≤ wr.heap.size) (hm : l.length ≤ 1000) :
    ∃ g cap w3, (Builtin.append_ #[22, 22] 22 #[u, .slice (some ⟨wr.heap.size, 0, none⟩) 1 1]).run Tryz.prog (wr.drew.alloc (.cells #[.int .i64 x.k, .string x.frm, .string x.to, .int .i64 x.cost] 52)) = .ok (.slice (some ⟨g, 0, none⟩) (l.length + 1) cap) w3 ∧
      Rw.Bx (wr.drew.alloc (.cells #[.int .i64 x.k, .string x.frm, .string x.to, .int .i64 x.cost] 52)) E #[u, c1, c2, c3, c4, c5] 25 ∧ Rw.Bx w3 E #[u, c1, c2, c3, c4, c5] 25 ∧
      Rw.Bx (w3.setCell ⟨E, 0, none⟩ (.slice (some ⟨g, 0, none⟩) (l.length + 1) cap)) E #[.slice (some ⟨g, 0, none⟩) (l.length + 1) cap, c1, c2, c3, c4, c5] 25 ∧
      Rw.OwnK Rw.KR (w3.setCell ⟨E, 0, none⟩ (.slice (some ⟨g, 0, none⟩) (l.length + 1) cap)) B (.slice (some ⟨g, 0, none⟩) (l.length + 1) cap) (l ++ [x]) ∧ Below n0 wr (w3.setCell ⟨E, 0, none⟩ (.slice (some ⟨g, 0, none⟩) (l.length + 1) cap)) ∧
      B ≤ (w3.setCell ⟨E, 0, none⟩ (.slice (some ⟨g, 0, none⟩) (l.length + 1) cap)).heap.size ∧ Below E wr w3 := by
  obtain ⟨i0, hi, hz0, hz1, hz2⟩ := info_parts Rw.okR.info
  have hED : Rw.Bx wr.drew E #[u, c1, c2, c3, c4, c5] 25 := hE
  have hrow : Rw.OwnK Rw.KR wr.drew B u l := hl.bt (Nm.drewB (Below.refl _ _) 1)
  have hEl : E < wr.heap.size := by omega
  have hrowA : Rw.OwnK Rw.KR (wr.drew.alloc (.cells #[.int .i64 x.k, .string x.frm, .string x.to, .int .i64 x.cost] 52)) B u l := hrow.bt (Nm.al _ _)
  obtain ⟨v3, w3, hrun, hown, hgrow, _, hob⟩ := run_append_own_at (P := Tryz.prog) (w := wr.drew.alloc (.cells #[.int .i64 x.k, .string x.frm, .string x.to, .int .i64 x.cost] 52)) B 22 22 52 i0 Rw.KR.z 4 48 Tryz.underlying22 hi hz0 hz1 hz2 Rw.okR.zs (by decide) u l.length (l.flatMap Rw.KR.cs)
    hrowA ⟨wr.heap.size, 0, none⟩ 1 1 (Rw.KR.cs x) rfl (World.news_of_block (heap_alloc_new wr.drew _)) (Rw.okR.one x) (by unfold maxLen; omega) (by omega) (by simp; omega)
  obtain ⟨g, cap, rfl⟩ := ownsRow_succ hown
  have hszd : wr.drew.heap.size = wr.heap.size := rfl
  have hszA : (wr.drew.alloc (.cells #[.int .i64 x.k, .string x.frm, .string x.to, .int .i64 x.cost] 52)).heap.size = wr.heap.size + 1 := by simp [show wr.drew.heap.size = wr.heap.size from rfl]
  have hg3 := hgrow.size
  rw [hszA] at hg3
  have hl3 : Rw.OwnK Rw.KR w3 B (.slice (some ⟨g, 0, none⟩) (l.length + 1) cap) (l ++ [x]) := by
    unfold Rw.OwnK
    rw [List.length_append, List.flatMap_append, List.flatMap_cons, List.flatMap_nil, List.append_nil]
    exact hown
  have hfar : ∀ b, b < B → u.ownBlock ≠ some b := fun b hb e => by
    have := (hl.lt b e).1
    omega
  have hkeep : ∀ b, b < wr.heap.size → u.ownBlock ≠ some b → w3.heap[b]? = wr.heap[b]? := fun b hb hne =>
    ((hgrow.block b (by rw [hszA]; omega) (fun e => hne e.symm)).trans (Below.heap_alloc wr.drew _ b hb))
  have hE3 : Rw.Bx w3 E #[u, c1, c2, c3, c4, c5] 25 := (hkeep E hEl (hfar E hEB)).trans hE
  have hb3 : Below E wr w3 := ((Below.refl E wr).drew.alloc (by omega) _).grown hgrow (by simp; omega) fun j hj => by
    by_cases hjB : j < B
    · exact absurd hj (hfar j hjB)
    · omega
  have hset : Below n0 w3 (w3.setCell ⟨E, 0, none⟩ (.slice (some ⟨g, 0, none⟩) (l.length + 1) cap)) := (Below.refl n0 w3).setCell (p := ⟨E, 0, none⟩) hn _
  refine ⟨g, cap, w3, hrun, hED.bt (Nm.al _ _), hE3, hE3.put (i := 0) _, hl3.set ⟨E, 0, none⟩ hEB _, (hb3.mono hn).trans hset, by have := hset.size; omega, hb3⟩
end Go.Proofs.YtkddpealobeleaaGreatDoor
