/- How long the lists of digested texts are (layer 3), and how large their texts. -/
import Derived.Test.YtokhdloebcadnaaDoorSeHd
import Derived.Test.YtokhdloebcadnaaDoorSeN
import Derived.Test.YtokhdloebcadnaaDoorTrT
import Derived.Test.YtokhdloebcadnaaDoorSeF
import Derived.Test.YtokhdloebcadnaaDoorSeG
namespace Go.Proofs.YtokhdloebcadnaaDoor
open Go.RowKit
set_option maxRecDepth 100000
set_option linter.unusedSimpArgs false
set_option linter.unusedVariables false

theorem made_len (s : ByteArray) (h n : Nat) (hh : h ≤ 2) (hn : n ≤ 30) : (Se.made s h n).length ≤ 10000 := by
  have h4 : 2 ^ h ≤ 4 := Nat.pow_le_pow_right (n := 2) (by omega) hh
  have h1 := part2_length s n (2 ^ h)
  have h2 := lv_length h ((Se.keys s h).map Tr.leaf) (by rw [List.length_map, Se.keys_length])
  have h3 : 2 ^ h * (18 * (n + 2) + 2) ≤ 4 * (18 * (30 + 2) + 2) := Nat.mul_le_mul h4 (by omega)
  have e : Se.made s h n = part2 s n (2 ^ h) ++ Se.lv h ((Se.keys s h).map Tr.leaf) := rfl
  rw [e, List.length_append]
  omega

theorem pairT_le : ∀ (l : List ByteArray), (∀ x ∈ l, x.size ≤ 1000000000) → ∀ y ∈ Se.pairT l, y.size ≤ 140737488355328
  | [], _, y, h => by simp [Se.pairT] at h
  | [_], _, y, h => by simp [Se.pairT] at h
  | a :: b :: r, hz, y, h => by
    rcases List.mem_cons.1 h with rfl | h
    · exact jn_le (sz3 (szl [_, _, _, _] (by decide)) (hz a (by simp)) (hz b (by simp))) (by simp)
    · exact pairT_le r (fun x hx => hz x (by simp [hx])) y h
theorem lv_le : ∀ (r : Nat) (l : List ByteArray), (∀ x ∈ l, x.size ≤ 1000000000) → ∀ y ∈ Se.lv r l, y.size ≤ 140737488355328
  | 0, _, _, y, h => by simp [Se.lv] at h
  | r + 1, l, hz, y, h => by
    rcases List.mem_append.1 h with h | h
    · exact pairT_le l hz y h
    · exact lv_le r _ (pairD_small l) y h
theorem jn18_le (l : List ByteArray) (hz : ∀ s ∈ l, s.size ≤ 1000) (hl : l.length ≤ 1000) : (Tr.jn l).size ≤ 140737488355328 := by
  have := (fins_room l hz hl).1
  unfold Tr.jn
  rw [bsize]
  exact this
theorem ch_start_size (s : ByteArray) (i k n : Nat) : (Se.ch (Se.start s i k) n).size = 16 := by
  cases n with
  | zero => exact Tr.dg_size _
  | succ n => exact Se.ch_size _ n

theorem made_le (s : ByteArray) (h n : Nat) (hs : s.size ≤ 1000000000) (hh : h ≤ 8) : ∀ x ∈ Se.made s h n, x.size ≤ 140737488355328 := by
  have h4 : 2 ^ h ≤ 256 := Nat.pow_le_pow_right (n := 2) (by omega) hh
  intro x hx
  rcases List.mem_append.1 hx with hx | hx
  · obtain ⟨i, hi, hx⟩ := List.mem_flatMap.1 hx
    have hi := List.mem_range.1 hi
    rcases List.mem_append.1 hx with hx | hx
    · obtain ⟨k, hk, hx⟩ := List.mem_flatMap.1 hx
      have hk := List.mem_range.1 hk
      rcases List.mem_cons.1 hx with rfl | hx
      · exact startT_le s i k hs (by omega) (by omega)
      · obtain ⟨j, _, rfl⟩ := List.mem_map.1 hx
        rw [ch_start_size]
        omega
    · rcases List.mem_cons.1 hx with rfl | hx
      · refine jn18_le _ (fun y hy => ?_) (by simp [Se.fins])
        obtain ⟨k, _, rfl⟩ := List.mem_map.1 hy
        rw [ch_start_size]
        omega
      · rw [List.mem_singleton.1 hx]
        exact jn_le (sz2 (szl [_, _, _, _] (by decide)) (by rw [key_size]; omega)) (by simp)
  · refine lv_le h _ (fun y hy => ?_) x hx
    obtain ⟨k, _, rfl⟩ := List.mem_map.1 hy
    rw [Tr.leaf, Tr.dg_size]
    omega

theorem climb_length : ∀ (pt : List ByteArray) (a : ByteArray) (i : Nat), (Se.climb a i pt).length = pt.length
  | [], _, _ => rfl
  | q :: r, a, i => by
    show (_ :: Se.climb _ _ r).length = _
    rw [List.length_cons, climb_length r, List.length_cons]
theorem climb_le : ∀ (pt : List ByteArray) (a : ByteArray) (i : Nat), a.size ≤ 1000000000 → (∀ s ∈ pt, s.size ≤ 1000000000) → ∀ y ∈ Se.climb a i pt, y.size ≤ 140737488355328
  | [], _, _, _, _, y, h => by simp [Se.climb] at h
  | q :: r, a, i, ha, hz, y, h => by
    rcases List.mem_cons.1 h with rfl | h
    · have hq := hz q (by simp)
      have hn : (⟨#[110, 111, 100, 101]⟩ : ByteArray).size ≤ 1000000000 := szl [_, _, _, _] (by decide)
      unfold Se.step
      split
      · exact jn_le (sz3 hn hq ha) (by simp)
      · exact jn_le (sz3 hn ha hq) (by simp)
    · exact climb_le r _ _ (by rw [Tr.dg_size]; omega) (fun s hs => hz s (by simp [hs])) y h

theorem checked_len (m : ByteArray) (i : Nat) (sg pt : List ByteArray) : (Se.checked m i sg pt).length ≤ 290 + pt.length := by
  have h1 := cpart_length m sg 18
  have h2 := climb_length pt (Tr.leaf (Tr.dg (Se.ends m sg))) i
  have e : Se.checked m i sg pt = cpart m sg 18 ++ [Tr.jn (Se.ends m sg), Tr.jn [⟨#[108, 101, 97, 102]⟩, Tr.dg (Se.ends m sg)]] ++ Se.climb (Tr.leaf (Tr.dg (Se.ends m sg))) i pt := rfl
  rw [e, List.length_append, List.length_append, h2]
  simp only [List.length_cons, List.length_nil]
  omega
theorem checked_le (m : ByteArray) (i : Nat) (sg pt : List ByteArray) (h1 : ∀ s ∈ sg, s.size ≤ 1000) (h2 : ∀ s ∈ pt, s.size ≤ 1000000000) : ∀ x ∈ Se.checked m i sg pt, x.size ≤ 140737488355328 := by
  have hg : ∀ k, (sg.getD k ⟨#[]⟩).size ≤ 1000 := fun k => by
    rw [List.getD_eq_getElem?_getD]
    by_cases hk : k < sg.length
    · rw [List.getElem?_eq_getElem hk]
      exact h1 _ (List.getElem_mem _)
    · rw [List.getElem?_eq_none (by omega)]
      exact Nat.zero_le _
  have hc : ∀ k n, (Se.ch (sg.getD k ⟨#[]⟩) n).size ≤ 1000 := fun k n => by
    cases n with
    | zero => exact hg k
    | succ n => rw [Se.ch_size]; omega
  intro x hx
  rcases List.mem_append.1 hx with hx | hx
  · rcases List.mem_append.1 hx with hx | hx
    · obtain ⟨k, _, hx⟩ := List.mem_flatMap.1 hx
      obtain ⟨j, _, rfl⟩ := List.mem_map.1 hx
      have := hc k j
      omega
    · rcases List.mem_cons.1 hx with rfl | hx
      · refine jn18_le _ (fun y hy => ?_) (by simp [Se.ends])
        obtain ⟨k, _, rfl⟩ := List.mem_map.1 hy
        exact hc k _
      · rw [List.mem_singleton.1 hx]
        exact jn_le (sz2 (szl [_, _, _, _] (by decide)) (by rw [Tr.dg_size]; omega)) (by simp)
  · exact climb_le pt _ i (by rw [Tr.leaf, Tr.dg_size]; omega) h2 x hx

theorem checked_ex (m : ByteArray) (i : Nat) (sg pt : List ByteArray) (k : Nat) (hk : pt.length = k) (A1 A2 : Option Addr) (c1 c2 : Nat) (w : World) (hi : (i : Int) ≤ 9223372036854775807) (hm : m.size ≤ 140737488355328) (hl : sg.length = 18) (hp : k ≤ 1000) (hs1 : Strs w w.heap.size A1 sg) (hs2 : Strs w w.heap.size A2 pt)
    (hc1 : 18 ≤ c1) (hm1 : c1 ≤ maxLen) (hc2 : k ≤ c2) (hm2 : c2 ≤ maxLen) (hz1 : ∀ s ∈ sg, s.size ≤ 1000) (hz2 : ∀ s ∈ pt, s.size ≤ 1000000000) :
    Calls Tryd.prog 24 #[.string m, .agg #[.int .i64 (i : Int), .slice A1 18 c1, .slice A2 k c2]] w (Gives (Se.checked m i sg pt) w) := by
  subst hk
  exact checked_any m i sg pt A1 A2 c1 c2 w hi hm hl hp hs1 hs2 hc1 hm1 hc2 hm2 hz1 hz2
theorem sm_sum {a b : ByteArray} (h : Tr.sm a ≠ Tr.sm b) : Dg.sum a.data.toList ≠ Dg.sum b.data.toList := fun e => h (by unfold Tr.sm; rw [e])

theorem short_all {ss : List ByteArray} (h : shortL ss = true) : ∀ s ∈ ss, s.size ≤ 300 := fun s hs => by simpa using List.all_eq_true.1 h s hs
theorem sig_le (s : ByteArray) (i : Nat) (m : ByteArray) : ∀ x ∈ Se.sig s i m, x.size ≤ 1000 := digs_le (sig_digs s i m)
end Go.Proofs.YtokhdloebcadnaaDoor
