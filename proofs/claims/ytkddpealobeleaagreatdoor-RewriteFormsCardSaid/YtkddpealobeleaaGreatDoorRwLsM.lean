/- Layer 10: the statement's least cost of a form: a table of costs, in mathematics and in memory. -/
import Derived.Test.YtkddpealobeleaaGreatDoorRwFi
set_option linter.unusedSimpArgs false
set_option linter.unusedVariables false
namespace Go.Proofs.YtkddpealobeleaaGreatDoor
open Go.RowKit Go.Shelf
set_option maxRecDepth 100000
set_option maxHeartbeats 4000000
/-! ### mathematics -/
structure Rw.So (RU : List Rw.Ru) (L : List Nm.T) (f : Nm.T) (F : Nat → Nat → Int) : Prop where
  z : F 0 0 = 0
  s : ∀ p k, p ≤ L.length → k ≤ f.length → F p k = -1 ∨ ∃ c : Nat, F p k = (c : Int) ∧ Rw.Wr RU (L.take p) (f.take k) c
/-- What a rule offers at a place, behind some bytes, is honoured. -/
def Rw.Hon (R : List Rw.Rl) (k : Int) (L : List Nm.T) (f : Nm.T) (F : Nat → Nat → Int) (p x q : Nat) : Prop :=
  ∀ hx : x < R.length, Rw.fitB R[x] k (L.map Nm.bt) p = true → q + R[x].to.data.toList.length ≤ f.length → (f.drop q).take R[x].to.data.toList.length = R[x].to.data.toList → 0 ≤ F p q →
    0 ≤ F (p + (Nm.ls (Nm.sc R[x].k) R[x].frm.data.toList).length) (q + R[x].to.data.toList.length) ∧ F (p + (Nm.ls (Nm.sc R[x].k) R[x].frm.data.toList).length) (q + R[x].to.data.toList.length) ≤ F p q + R[x].cost
def Rw.Cm (R : List Rw.Rl) (k : Int) (L : List Nm.T) (f : Nm.T) (F : Nat → Nat → Int) (p x q : Nat) : Prop := ∀ p' x' q', (p' < p ∨ (p' = p ∧ (x' < x ∨ (x' = x ∧ q' < q)))) → Rw.Hon R k L f F p' x' q'
theorem Rw.Cm.start (R : List Rw.Rl) (k : Int) (L : List Nm.T) (f : Nm.T) (F : Nat → Nat → Int) : Rw.Cm R k L f F 0 0 0 := fun p' x' q' h => by omega
theorem Rw.Cm.next {R : List Rw.Rl} {k : Int} {L : List Nm.T} {f : Nm.T} {F : Nat → Nat → Int} {p x q : Nat} (h : Rw.Cm R k L f F p x q) (h2 : Rw.Hon R k L f F p x q) : Rw.Cm R k L f F p x (q + 1) := fun p' x' q' hh => by
  by_cases he : p' = p ∧ x' = x ∧ q' = q
  · obtain ⟨rfl, rfl, rfl⟩ := he
    exact h2
  · exact h p' x' q' (by omega)
theorem Rw.Cm.rule {R : List Rw.Rl} {k : Int} {L : List Nm.T} {f : Nm.T} {F : Nat → Nat → Int} {p x q : Nat} (h : Rw.Cm R k L f F p x q) (h2 : ∀ q', q ≤ q' → Rw.Hon R k L f F p x q') : Rw.Cm R k L f F p (x + 1) 0 := fun p' x' q' hh => by
  by_cases he : p' = p ∧ x' = x ∧ q ≤ q'
  · obtain ⟨rfl, rfl, h3⟩ := he
    exact h2 _ h3
  · exact h p' x' q' (by omega)
theorem Rw.Cm.place {R : List Rw.Rl} {k : Int} {L : List Nm.T} {f : Nm.T} {F : Nat → Nat → Int} {p x q : Nat} (h : Rw.Cm R k L f F p x q) (hx : R.length ≤ x) : Rw.Cm R k L f F (p + 1) 0 0 := fun p' x' q' hh => by
  by_cases he : p' = p ∧ x ≤ x'
  · intro hx'
    omega
  · exact h p' x' q' (by omega)
def Rw.up (F : Nat → Nat → Int) (i j : Nat) (v : Int) (p q : Nat) : Int := if p = i ∧ q = j then v else F p q
theorem Rw.up_same (F : Nat → Nat → Int) (i j : Nat) (v : Int) : Rw.up F i j v i j = v := if_pos ⟨rfl, rfl⟩
theorem Rw.up_row (F : Nat → Nat → Int) {i j : Nat} (v : Int) {p q : Nat} (h : p ≠ i) : Rw.up F i j v p q = F p q := if_neg (fun e => h e.1)
/-- A cost that is put down because it is less keeps what was honoured. -/
theorem Rw.Cm.up {R : List Rw.Rl} {k : Int} {L : List Nm.T} {f : Nm.T} {F : Nat → Nat → Int} {p x q i j : Nat} {v : Int} (h : Rw.Cm R k L f F p x q) (hi : p < i) (h0 : 0 ≤ v) (hl : F i j < 0 ∨ v ≤ F i j) : Rw.Cm R k L f (Rw.up F i j v) p x q := fun p' x' q' hh hx hf h1 h2 h3 => by
  have hp : p' ≠ i := by omega
  rw [Rw.up_row F v hp] at h3 ⊢
  obtain ⟨a1, a2⟩ := h p' x' q' hh hx hf h1 h2 h3
  by_cases he : p' + (Nm.ls (Nm.sc R[x'].k) R[x'].frm.data.toList).length = i ∧ q' + R[x'].to.data.toList.length = j
  · unfold Rw.up
    rw [if_pos he]
    obtain ⟨e1, e2⟩ := he
    rw [e1, e2] at a1 a2
    omega
  · unfold Rw.up
    rw [if_neg he]
    exact ⟨a1, a2⟩
theorem Rw.So.up {RU : List Rw.Ru} {L : List Nm.T} {f : Nm.T} {F : Nat → Nat → Int} (h : Rw.So RU L f F) {i j : Nat} {v : Nat} (hi : 0 < i) (hw : Rw.Wr RU (L.take i) (f.take j) v) : Rw.So RU L f (Rw.up F i j (v : Int)) :=
  ⟨by rw [Rw.up_row F _ (by omega)]; exact h.z, fun p q hp hq => by
    by_cases he : p = i ∧ q = j
    · obtain ⟨rfl, rfl⟩ := he
      rw [Rw.up_same]
      exact .inr ⟨v, rfl, hw⟩
    · unfold Rw.up
      rw [if_neg he]
      exact h.s p q hp hq⟩
/-- All that was honoured makes the table's costs the least ones. -/
theorem Rw.Cm.least {R : List Rw.Rl} {k : Int} {L : List Nm.T} {f : Nm.T} {F : Nat → Nat → Int} (hg : Rw.Good (Rw.rus k R)) (hc : ∀ z ∈ R, 0 ≤ z.cost) (hs : Rw.So (Rw.rus k R) L f F) (h : Rw.Cm R k L f F L.length 0 0) :
    ∀ p, p ≤ L.length → ∀ q, q ≤ f.length → ∀ c : Nat, Rw.Wr (Rw.rus k R) (L.take p) (f.take q) c → 0 ≤ F p q ∧ F p q ≤ (c : Int) := by
  intro p
  induction p using Nat.strongRecOn with
  | _ p ih =>
    intro hp q hq c hw
    by_cases h0 : p = 0
    · subst h0
      rw [List.take_zero] at hw
      rcases hw.first with ⟨_, h1, rfl⟩ | ⟨r, l, g, d, hr, hm, _⟩
      · have := congrArg List.length h1
        rw [List.length_take] at this
        simp only [List.length_nil] at this
        obtain rfl : q = 0 := by omega
        rw [hs.z]
        simp
      · have := (hg r hr).1
        simp_all
    · obtain ⟨p', c1, t, hst, hpp, g, d, he, rfl, hw'⟩ := Rw.take_last hp h0 hw
      obtain ⟨b1, b2, _⟩ := Rw.step_bound hg hst
      obtain ⟨r, hr, hfit, hpe, rfl, rfl⟩ := Rw.mem_steps.1 hst
      obtain ⟨z, hz, rfl⟩ := List.mem_map.1 (show r ∈ (R.filter fun x => decide (x.k = k)).map Rw.ru from hr)
      obtain ⟨hzR, hzk⟩ := List.mem_filter.1 hz
      obtain ⟨x, hx, rfl⟩ := List.getElem_of_mem hzR
      have hzk' : R[x].k = k := by simpa using hzk
      have hl := congrArg List.length he
      rw [List.length_take, List.length_append] at hl
      have hgl : g = f.take g.length := by
        have := congrArg (List.take g.length) he
        rw [List.take_take, List.take_left'] at this
        · rw [show min g.length q = g.length from by omega] at this
          exact this.symm
        · rfl
      have htl : (f.drop g.length).take R[x].to.data.toList.length = R[x].to.data.toList := by
        have h1 : f = f.take q ++ f.drop q := (List.take_append_drop q f).symm
        rw [he] at h1
        conv => lhs; rw [h1]
        simp [Rw.ru]
      rw [hgl] at hw'
      obtain ⟨a1, a2⟩ := ih p' b1 (by omega) g.length (by omega) d hw'
      have hfb : Rw.fitB R[x] k (L.map Nm.bt) p' = true := by
        unfold Rw.fitB
        rw [Bool.and_eq_true, decide_eq_true_eq]
        refine ⟨hzk', Rw.atB_iff.2 ?_⟩
        unfold Rw.fits at hfit
        rw [Bool.and_eq_true, decide_eq_true_eq, decide_eq_true_eq] at hfit
        exact hfit
      have hq' : g.length + R[x].to.data.toList.length = q := by
        have : (Rw.ru R[x]).to.length = R[x].to.data.toList.length := rfl
        omega
      obtain ⟨e1, e2⟩ := h p' x g.length (by omega) hx hfb (by omega) htl a1
      rw [hq'] at e1 e2
      have hpe' : p = p' + (Nm.ls (Nm.sc R[x].k) R[x].frm.data.toList).length := hpe
      rw [← hpe'] at e1 e2
      have hcost := hc R[x] (List.getElem_mem _)
      have : ((Rw.ru R[x]).cost : Int) = R[x].cost := by
        show ((R[x].cost.toNat : Nat) : Int) = _
        omega
      exact ⟨e1, by push_cast; omega⟩
/-! ### memory -/
/-- The rows of a table of costs: j of them are made. -/
structure Rw.Bm (W : World) (K gb n m j : Nat) (bs : Nat → Nat) (F : Nat → Nat → Int) : Prop where
  hb : W.heap[gb]? = some (.cells ((List.range (n + 1)).map fun i => if i < j then Value.slice (some ⟨bs i, 0, none⟩) (m + 1) (m + 1) else .slice none 0 0).toArray 29 (0, 0))
  hr : ∀ i, i < j → W.heap[bs i]? = some (.cells ((List.range (m + 1)).map fun k => Value.int .i64 (F i k)).toArray 3 (0, 0))
  inj : ∀ i i', i < j → i' < j → bs i = bs i' → i = i'
  ne : ∀ i, i < j → bs i ≠ gb
  low : ∀ i, i < j → K ≤ bs i
  lb : K ≤ gb
theorem Rw.Bm.bt {W V : World} {K gb n m j : Nat} {bs : Nat → Nat} {F : Nat → Nat → Int} (h : Rw.Bm W K gb n m j bs F) (hb : Below W.heap.size W V) : Rw.Bm V K gb n m j bs F :=
  ⟨(hb.block gb ((Array.getElem?_eq_some_iff.1 h.hb).1)).trans h.hb, fun i hi => (hb.block (bs i) ((Array.getElem?_eq_some_iff.1 (h.hr i hi)).1)).trans (h.hr i hi), h.inj, h.ne, h.low, h.lb⟩
theorem Rw.Bm.c1 {W : World} {K gb n m j : Nat} {bs : Nat → Nat} {F : Nat → Nat → Int} (h : Rw.Bm W K gb n m j bs F) {i : Nat} (hi : i < j) (hn : i ≤ n) : W.cell? ⟨gb, i, none⟩ = some (.slice (some ⟨bs i, 0, none⟩) (m + 1) (m + 1)) := by
  have : i < n + 1 := by omega
  simp [World.cell?, h.hb, this, hi]
theorem Rw.Bm.c0 {W : World} {K gb n m j : Nat} {bs : Nat → Nat} {F : Nat → Nat → Int} (h : Rw.Bm W K gb n m j bs F) {i : Nat} (hi : ¬ i < j) (hn : i ≤ n) : W.cell? ⟨gb, i, none⟩ = some (.slice none 0 0) := by
  have : i < n + 1 := by omega
  simp [World.cell?, h.hb, this, hi]
theorem Rw.Bm.c2 {W : World} {K gb n m j : Nat} {bs : Nat → Nat} {F : Nat → Nat → Int} (h : Rw.Bm W K gb n m j bs F) {i k : Nat} (hi : i < j) (hk : k ≤ m) : W.cell? ⟨bs i, k, none⟩ = some (.int .i64 (F i k)) := by
  have : k < m + 1 := by omega
  simp [World.cell?, h.hr i hi, this]
theorem Rw.Bm.f0 {W : World} {K gb n m j : Nat} {bs : Nat → Nat} {F : Nat → Nat → Int} (h : Rw.Bm W K gb n m j bs F) (i : Nat) : W.frozen? ⟨gb, i, none⟩ = false := Lib.frozen_of_heap h.hb i
theorem Rw.Bm.f2 {W : World} {K gb n m j : Nat} {bs : Nat → Nat} {F : Nat → Nat → Int} (h : Rw.Bm W K gb n m j bs F) {i : Nat} (hi : i < j) (k : Nat) : W.frozen? ⟨bs i, k, none⟩ = false := Lib.frozen_of_heap (h.hr i hi) k
theorem Rw.Bm.congr {W : World} {K gb n m j : Nat} {bs : Nat → Nat} {F G : Nat → Nat → Int} (h : Rw.Bm W K gb n m j bs F) (he : ∀ i k, i < j → k ≤ m → F i k = G i k) : Rw.Bm W K gb n m j bs G :=
  ⟨h.hb, fun i hi => by
    rw [h.hr i hi]
    congr 3
    refine List.map_congr_left fun k hk => ?_
    rw [he i k hi (by have := List.mem_range.1 hk; omega)], h.inj, h.ne, h.low, h.lb⟩
/-- A cost is put down. -/
theorem Rw.Bm.set {W : World} {K gb n m j : Nat} {bs : Nat → Nat} {F : Nat → Nat → Int} (h : Rw.Bm W K gb n m j bs F) {i k : Nat} (hi : i < j) (hk : k ≤ m) (v : Int) : Rw.Bm (W.setCell ⟨bs i, k, none⟩ (.int .i64 v)) K gb n m j bs (Rw.up F i k v) := by
  refine ⟨(Rw.set_ne W _ _ gb (fun e => h.ne i hi e.symm)).trans h.hb, fun i' hi' => ?_, h.inj, h.ne, h.low, h.lb⟩
  by_cases he : i' = i
  · subst he
    have h1 := h.hr i' hi'
    have h2 : (W.setCell ⟨bs i', k, none⟩ (.int .i64 v)).heap[bs i']? = some (.cells (((List.range (m + 1)).map fun k => Value.int .i64 (F i' k)).toArray.setIfInBounds k (.int .i64 v)) 3 (0, 0)) := by
      simp [World.setCell, Array.getElem?_modify, h1]
    rw [h2]
    congr 2
    apply Array.ext'
    rw [Array.toList_setIfInBounds]
    apply List.ext_getElem (by simp)
    intro q h3 h4
    by_cases hq : k = q
    · subst hq
      simp [Rw.up_same]
    · rw [List.getElem_set_ne hq]
      have : ¬ (q = k) := fun e => hq e.symm
      simp [Rw.up, this]
  · have hne : bs i' ≠ bs i := fun e => he (h.inj i' i hi' hi e)
    refine (Rw.set_ne W _ _ (bs i') hne).trans ((h.hr i' hi').trans ?_)
    congr 3
    exact List.map_congr_left fun q _ => by rw [Rw.up_row F v he]
/-- A row is put in. -/
theorem Rw.Bm.push {W : World} {K gb n m j : Nat} {bs : Nat → Nat} {F : Nat → Nat → Int} (h : Rw.Bm W K gb n m j bs F) (hj : j ≤ n) (hK : K ≤ W.heap.size) :
    Rw.Bm ((W.alloc (.cells (List.replicate (m + 1) (Value.int .i64 0)).toArray 3)).setCell ⟨gb, j, none⟩ (.slice (some ⟨W.heap.size, 0, none⟩) (m + 1) (m + 1))) K gb n m (j + 1) (fun i => if i = j then W.heap.size else bs i) (fun i k => if i = j then 0 else F i k) := by
  have hA := h.bt (Nm.al W (.cells (List.replicate (m + 1) (Value.int .i64 0)).toArray 3))
  have hgb : gb < W.heap.size := (Array.getElem?_eq_some_iff.1 h.hb).1
  have hbs : ∀ i, i < j → bs i < W.heap.size := fun i hi => (Array.getElem?_eq_some_iff.1 (h.hr i hi)).1
  refine ⟨?_, fun i hi => ?_, fun i i' hi hi' he => ?_, fun i hi => ?_, fun i hi => ?_, h.lb⟩
  · have h1 := hA.hb
    have h2 : ((W.alloc (.cells (List.replicate (m + 1) (Value.int .i64 0)).toArray 3)).setCell ⟨gb, j, none⟩ (.slice (some ⟨W.heap.size, 0, none⟩) (m + 1) (m + 1))).heap[gb]? = some (.cells (((List.range (n + 1)).map fun i => if i < j then Value.slice (some ⟨bs i, 0, none⟩) (m + 1) (m + 1) else .slice none 0 0).toArray.setIfInBounds j (.slice (some ⟨W.heap.size, 0, none⟩) (m + 1) (m + 1))) 29 (0, 0)) := by
      simp only [World.setCell, Array.getElem?_modify, h1]
      simp
    rw [h2]
    congr 2
    apply Array.ext'
    rw [Array.toList_setIfInBounds]
    apply List.ext_getElem (by simp)
    intro q h3 h4
    by_cases hq : j = q
    · subst hq
      simp
    · rw [List.getElem_set_ne hq]
      have h5 : ¬ (q = j) := fun e => hq e.symm
      simp only [List.getElem_toArray, List.getElem_map, List.getElem_range, h5, if_false]
      by_cases h6 : q < j
      · rw [if_pos h6, if_pos (by omega)]
      · rw [if_neg h6, if_neg (by omega)]
  · by_cases he : i = j
    · subst he
      simp only [if_pos]
      refine (Rw.set_ne _ _ _ _ (by show W.heap.size ≠ gb; omega)).trans ((heap_alloc_new W _).trans ?_)
      congr 3
      apply List.ext_getElem (by simp)
      intro q h3 h4
      simp
    · have hij : i < j := by omega
      simp only [he, if_false]
      exact (Rw.set_ne _ _ _ _ (h.ne i hij)).trans (hA.hr i hij)
  · by_cases h1 : i = j
    · by_cases h2 : i' = j
      · omega
      · simp only [h1, h2, if_true, if_false] at he
        have := hbs i' (by omega)
        omega
    · by_cases h2 : i' = j
      · simp only [h1, h2, if_true, if_false] at he
        have := hbs i (by omega)
        omega
      · simp only [h1, h2, if_false] at he
        exact h.inj i i' (by omega) (by omega) he
  · by_cases h1 : i = j
    · simp only [h1, if_true]
      omega
    · simp only [h1, if_false]
      exact h.ne i (by omega)
  · by_cases h1 : i = j
    · simp only [h1, if_true]
      exact hK
    · simp only [h1, if_false]
      exact h.low i (by omega)
end Go.Proofs.YtkddpealobeleaaGreatDoor
