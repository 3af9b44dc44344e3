/- Layer 8: the program's Split. -/
import Derived.Test.YtkbncdcphohmiaaGreatDoorMoL
set_option linter.unusedSimpArgs false
set_option linter.unusedVariables false
namespace Go.Proofs.YtkbncdcphohmiaaGreatDoor
open Go.RowKit
set_option maxRecDepth 100000

theorem Mo.sum_mono (f : Nat → Nat) : ∀ {k n : Nat}, k ≤ n → Mo.sum k f ≤ Mo.sum n f
  | k, 0, h => by
    have : k = 0 := by omega
    subst this; exact Nat.le_refl _
  | k, n + 1, h => by
    by_cases e : k = n + 1
    · subst e; exact Nat.le_refl _
    · rw [Mo.sum_succ]
      exact Nat.le_trans (Mo.sum_mono f (show k ≤ n by omega)) (Nat.le_add_right _ _)
theorem Mo.sum_le (f : Nat → Nat) (c : Nat) : ∀ (n : Nat), (∀ i, i < n → f i ≤ c) → Mo.sum n f ≤ c * n
  | 0, _ => by simp [Mo.sum_zero]
  | n + 1, h => by
    have := Mo.sum_le f c n (fun i hi => h i (by omega))
    have := h n (by omega)
    rw [Mo.sum_succ, Nat.mul_add]
    omega
/-- What the parts are, if they are right. -/
structure Mo.Right (l : List Int) : Prop where
  pre : Mo.PreR l l.length
  pos : 0 < Mo.sum l.length (Mo.pn l)
  lim : Mo.sum l.length (Mo.pn l) ≤ 400000000
  len : l.length ≤ 400
  some : 0 < l.length
theorem Mo.right_of {l : List Int} (h : Mo.okP l = true) : Mo.Right l := by
  simp only [Mo.okP, Bool.and_eq_true, decide_eq_true_eq] at h
  have hp : Mo.PreR l l.length := fun i hi => by
    rw [List.getD_eq_getElem?_getD, List.getElem?_eq_getElem hi, Option.getD_some]
    exact List.all_eq_true.1 h.2.1 _ (List.getElem_mem hi)
  have h3 := Mo.sum_le (Mo.pn l) 1000000 l.length (fun i hi => (Mo.pn_of (hp i hi)).2)
  refine ⟨hp, by omega, by have := h.1; omega, h.1, ?_⟩
  refine Nat.pos_of_ne_zero fun e => h.2.2 ?_
  rw [e]; rfl
theorem Mo.Right.fit {l : List Int} (h : Mo.Right l) (u : Nat) : Mo.Fit u (Mo.sum l.length (Mo.pn l)) l.length (Mo.pn l) := ⟨rfl, h.pos⟩

theorem Mo.tdiv_cast (m s : Nat) : Int.tdiv (m : Int) (s : Int) = ((m / s : Nat) : Int) := by
  rw [Int.tdiv_eq_ediv_of_nonneg (Int.natCast_nonneg _)]
  rfl
theorem Mo.w64 (n : Nat) (h : n ≤ 1000000000000000000) : wrap64 (n : Int) = (n : Int) := IntWalk.wrap64_in _ (by omega)
theorem Mo.lim (u p : Nat) (hu : u ≤ 1000000000000) (hp : p ≤ 1000000) : u * p ≤ 1000000000000000000 := Nat.le_trans (Nat.mul_le_mul hu hp) (Nat.le_of_eq (by decide))
theorem OwnZ.heap {w w' : World} {B g c : Nat} {l : List Int} (h : OwnZ w B g c l) (e : w'.heap[g]? = w.heap[g]?) : OwnZ w' B g c l := by
  obtain ⟨h1, h2⟩ := h
  refine ⟨h1, ?_⟩
  rcases h2 with h2 | ⟨g', cap, cur, hv, hg, hh, r⟩
  · exact .inl h2
  · have : g' = g := by
      simp only [Value.slice.injEq, Option.some.injEq, Addr.mk.injEq] at hv
      exact hv.1.1.symm
    subst this
    exact .inr ⟨g', cap, cur, hv, hg, e.trans hh, r⟩
theorem OwnZ.other {w : World} {B g c : Nat} {l : List Int} (h : OwnZ w B g c l) {g' : Nat} (hne : g ≠ g') (i : Nat) (v : Value) : OwnZ (w.setCell ⟨g', i, none⟩ v) B g c l := h.heap (Below.heap_setCell _ _ _ _ hne)
theorem Mo.upto_len (n k : Nat) (f : Nat → Nat) : (Mo.upto n k f).length = n := Mo.row_len _ _
/-- The three boxes, and the parts. -/
structure Mo.Box (v : World) (n0 : Nat) (u s : Nat) (A : Option Addr) (cp : Nat) (l : List Int) : Prop where
  b0 : Bk v n0 3 #[.int .i64 (u : Int)]
  b1 : Bk v (n0 + 1) 41 #[.slice A l.length cp]
  b2 : Bk v (n0 + 2) 3 #[.int .i64 (s : Int)]
  zs : Mo.Zs v n0 A l
theorem Mo.Box.below {v v' : World} {n0 : Nat} {u s : Nat} {A : Option Addr} {cp : Nat} {l : List Int} (h : Mo.Box v n0 u s A cp l) (hb : Below (n0 + 3) v v') : Mo.Box v' n0 u s A cp l :=
  ⟨h.b0.below hb (by omega), h.b1.below hb (by omega), h.b2.below hb (by omega), h.zs.below hb (by omega)⟩
theorem Mo.Box.cap {v : World} {n0 : Nat} {u s : Nat} {A : Option Addr} {cp : Nat} {l : List Int} (h : Mo.Box v n0 u s A cp l) : Mo.Cap v n0 (n0 + 1) (n0 + 2) u s A cp l := ⟨h.b0.cell 0 _ rfl, h.b1.cell 0 _ rfl, h.b2.cell 0 _ rfl⟩
/-- What Split returns where there is no error. -/
def Mo.SplP (u : Nat) (l : List Int) (w : World) (e : Ending) (w' : World) : Prop :=
  ∃ g, e = .returned (.tuple #[.slice (some ⟨g, 0, none⟩) l.length l.length, .int .i64 0]) ∧ OwnZ w' w.heap.size g l.length (Mo.row l.length (Mo.out u (Mo.sum l.length (Mo.pn l)) (Mo.pn l) l.length)) ∧ Below w.heap.size w w'

theorem Mo.split_bad (u : Int) (A : Option Addr) (cp : Nat) (l : List Int) (w : World) (hz : Mo.Zs w w.heap.size A l) (hlen : l.length ≤ maxLen) (hbad : Mo.okP l = false ∨ u < 0 ∨ 1000000000000 < u) :
    Calls Tryz.prog 23 #[.int .i64 u, .slice A l.length cp] w fun e w' => e = .returned (.tuple #[.slice none 0 0, .int .i64 1]) ∧ Below w.heap.size w w' := by
  have C1 := Lib.hid (fun v (h : Below w.heap.size w v) => Mo.total_any A cp l v (hz.bt h) hlen)
  have B3 : Hid (∀ t : Int, Below w.heap.size w (((w.alloc (.cells #[.int .i64 u] 3)).alloc (.cells #[.slice A l.length cp] 41)).alloc (.cells #[.int .i64 t] 3))) := Lib.hid (fun t => Mo.Nb (Mo.Nb (Mo.al w _) (Mo.al _ _)) (Mo.al _ _))
  have B2 : Hid (Below w.heap.size w ((w.alloc (.cells #[.int .i64 u] 3)).alloc (.cells #[.slice A l.length cp] 41))) := Lib.hid (Mo.Nb (Mo.al w _) (Mo.al _ _))
  have HOK : Hid (Mo.okP l = true → (Mo.totF l).2 = 0) := Lib.hid (fun h => by unfold Mo.totF; rw [h]; rfl)
  have HBD : Hid (Mo.okP l = false → (Mo.totF l).2 = 1) := Lib.hid (fun h => by unfold Mo.totF; rw [h]; rfl)
  generalize (Mo.totF l).1 = t1 at *
  generalize (Mo.totF l).2 = t2 at *
  clear hz hlen
  generalize l.length = n at *
  cases hok : Mo.okP l with
  | false =>
    obtain rfl := HBD.out hok
    clear HOK HBD hbad hok
    go_enter Tryz.func23, Tryz.ntmps23
    go_wp2_with (go_at_call 53; refine (C1.out _ B2.out).mono ?_; rintro e w1 ⟨rfl, rfl⟩)
    go_ret2
    exact ⟨rfl, B3.out _⟩
  | true =>
    obtain rfl := HOK.out hok
    have hb2 : u < 0 ∨ 1000000000000 < u := by
      rcases hbad with h | h
      · rw [hok] at h; cases h
      · exact h
    clear HOK HBD hbad hok
    rcases hb2 with h | h
    · go_enter Tryz.func23, Tryz.ntmps23
      go_wp2_with (go_at_call 53; refine (C1.out _ B2.out).mono ?_; rintro e w1 ⟨rfl, rfl⟩)
      go_ret2
      exact ⟨rfl, B3.out _⟩
    · go_enter Tryz.func23, Tryz.ntmps23
      go_wp2_with (go_at_call 53; refine (C1.out _ B2.out).mono ?_; rintro e w1 ⟨rfl, rfl⟩)
      go_ret2
      exact ⟨rfl, B3.out _⟩

section
open Go.Shelf Go.Lib Go.Sort
theorem Mo.sw_grown {α : Type} [Inhabited α] {enc : α → Value} {w W : World} {blk off : Nat} {dk : Array α} (h : SW enc w blk off dk W) : w.grownBy W (some blk) := by
  obtain ⟨m, os, rfl⟩ := h
  refine ⟨rfl, rfl, rfl, ?_, fun k hk hne => ?_⟩
  · unfold sortWorld
    rw [Go.Sort.size_grow, size_putRow]
    exact Nat.le_add_right _ _
  · unfold sortWorld
    rw [Go.Sort.heap_grow_old _ _ (by rw [size_putRow]; exact hk)]
    have : blk ≠ k := fun e => hne (by rw [e])
    simp [putRow, mapBlock, Sort.ahead, Array.getElem?_modify, this]
theorem Mo.sw_sort {α : Type} [Inhabited α] {enc : α → Value} {w : World} {blk off m : Nat} {dk : Array α} {os : Array Obj} : w.grownBy (sortWorld enc w blk off m dk os) (some blk) := Mo.sw_grown ⟨m, os, rfl⟩
/-- How places are kept. -/
def Mo.enc (m : Nat) (x : Fin (m + 1)) : Value := .int .i64 (x.val : Int)
theorem Mo.sort_any (B a b c : Nat) (u s m : Nat) (A : Option Addr) (cp g : Nat) (l : List Int) (w : World) (hm : m + 1 = l.length) (hB : w.cell? ⟨B, 0, none⟩ = some (.func (.func 54) #[] #[.pointer (some ⟨a, 0, none⟩), .pointer (some ⟨b, 0, none⟩), .pointer (some ⟨c, 0, none⟩)])) (hc : Mo.Cap w a b c u s A cp l)
    (hz : Mo.Zs w (min a (min b (min c g))) A l) (hlt : a < g ∧ b < g ∧ c < g ∧ g < B) (hg : ∀ k, k < l.length → w.cell? ⟨g, k, none⟩ = some (.int .i64 (k : Int)) ∧ w.frozen? ⟨g, k, none⟩ = false) (hgs : g < w.heap.size) (hl : l.length < 40) (hp : Mo.PreR l l.length) (hu : u ≤ 1000000000000) (hs : 0 < s) (hs2 : s ≤ 400000000) :
    Calls Tryz.prog 55 #[.slice (some ⟨g, 0, none⟩) l.length l.length, .func (.func 56) #[] #[.pointer (some ⟨B, 0, none⟩)]] w fun e w' => e = .returned (.tuple #[]) ∧ ∃ d : Array (Fin (m + 1)), (∀ j, j < l.length → Mo.rank (Mo.rm u s (Mo.pn l)) l.length (d[j]!).val = j ∧ (d[j]!).val < l.length ∧ w'.cell? ⟨g, j, none⟩ = some (.int .i64 ((d[j]!).val : Int))) ∧ w.grownBy w' (some g) := by
  have hsz : (Mo.start m).size = l.length := by rw [Mo.start_size, hm]
  have hBl : B < w.heap.size := by
    refine Nat.lt_of_not_le fun h => ?_
    simp [World.cell?, Array.getElem?_eq_none h] at hB
  have hH : Holds (Mo.enc m) w g 0 (Mo.start m) := fun j hj => by
    rw [hsz] at hj
    rw [Nat.zero_add]
    unfold Mo.enc
    rw [Mo.start_get m j (by omega)]
    exact hg j hj
  have R : Row1 (Mo.enc m) w g 0 (Mo.start m) := ⟨fun _ => rfl, hH, hgs⟩
  have hcmp : CmpReads Tryz.prog 56 #[.pointer (some ⟨B, 0, none⟩)] (Mo.enc m) (Mo.cf m (Mo.rm u s (Mo.pn l))) g 0 (Mo.start m).size w := fun q os dk hd x y => by
    have hgr := Mo.sw_sort (enc := Mo.enc m) (w := w) (blk := g) (off := 0) (m := q) (dk := dk) (os := os)
    have hcell : ∀ (ad : Addr), ad.block ≠ g → ad.block < w.heap.size → (sortWorld (Mo.enc m) w g 0 q dk os).cell? ad = w.cell? ad := fun ad h1 h2 => World.cell?_of_block (w := w) (hgr.block ad.block h2 (fun e => h1 (by simpa using e)))
    refine Mo.cmp_any B a b c u s A cp l x.val y.val _ ?_ ⟨?_, ?_, ?_⟩ (fun k hk => ?_) (by have := x.isLt; omega) (by have := y.isLt; omega) (by omega) hp hu hs hs2
    · exact (hcell _ (by show B ≠ g; omega) hBl).trans hB
    · exact (hcell _ (by show a ≠ g; omega) (by show a < w.heap.size; omega)).trans hc.u
    · exact (hcell _ (by show b ≠ g; omega) (by show b < w.heap.size; omega)).trans hc.l
    · exact (hcell _ (by show c ≠ g; omega) (by show c < w.heap.size; omega)).trans hc.s
    · obtain ⟨ad, e, h1, h2⟩ := hz k hk
      have h3 : (ad.add k).block < g := by rw [Mo.add_block]; omega
      exact ⟨ad, e, by have := hgr.size; omega, (hcell _ (by omega) (by omega)).trans h2⟩
  have := Sb.sort_small (Mo.enc m) (Mo.cf m (Mo.rm u s (Mo.pn l))) Fin.val (Mo.swo m _) 56 #[.pointer (some ⟨B, 0, none⟩)] g 0 l.length (Mo.start m) w (enters_of Tryz.func56 (by kernel_rfl) rfl) hcmp.lays R (by rw [hsz]; exact hl) (fun i j hij hj => by
    rw [hsz] at hj
    rw [Mo.start_get m i (by omega), Mo.start_get m j (by omega)]
    exact hij)
  rw [hsz] at this
  refine this.mono fun e w' ⟨he, d, h1, h2, h3⟩ => ⟨he, d, fun j hj => ⟨?_, ?_, ?_⟩, Mo.sw_grown h3⟩
  · rw [← hm] at h1 h2 ⊢
    exact Mo.sorted_rank _ h1 h2 j (by omega)
  · have := (d[j]!).isLt
    omega
  · have hd : d.size = (Mo.start m).size := h1.1
    have := h3.c1 R hd j (by rw [hd, hsz]; exact hj)
    rw [Nat.zero_add] at this
    exact this
end

set_option maxHeartbeats 4000000 in
theorem Mo.split_ok (u : Nat) (A : Option Addr) (cp : Nat) (l : List Int) (w : World) (hz : Mo.Zs w w.heap.size A l) (hl : l.length < 40) (hok : Mo.okP l = true) (hu : u ≤ 1000000000000) :
    Calls Tryz.prog 23 #[.int .i64 (u : Int), .slice A l.length cp] w (Mo.SplP u l w) := by
  have HR := Lib.hid (Mo.right_of hok)
  obtain ⟨s, hs⟩ : ∃ s, s = Mo.sum l.length (Mo.pn l) := ⟨_, rfl⟩
  have HS := Lib.hid hs
  have hs0 : 0 < s := by rw [hs]; exact HR.out.pos
  have hs1 : s ≤ 400000000 := by rw [hs]; exact HR.out.lim
  have HF : Hid (Mo.Fit u s l.length (Mo.pn l)) := Lib.hid (by rw [hs]; exact HR.out.fit u)
  have C1 : Hid (∀ v, Below w.heap.size w v → Calls Tryz.prog 53 #[.slice A l.length cp] v fun e w' => e = .returned (.tuple #[.int .i64 (s : Int), .int .i64 0]) ∧ v = w') := Lib.hid (fun v h => by
    have := Mo.total_any A cp l v (hz.bt h) (by unfold maxLen; omega)
    unfold Mo.totF at this
    rw [hok, if_pos rfl] at this
    rw [hs]
    exact this)
  have B2 : Hid (Below w.heap.size w ((w.alloc (.cells #[.int .i64 (u : Int)] 3)).alloc (.cells #[.slice A l.length cp] 41))) := Lib.hid (Mo.Nb (Mo.al w _) (Mo.al _ _))
  obtain ⟨WA, hWA⟩ : ∃ WA, WA = ((w.alloc (.cells #[.int .i64 (u : Int)] 3)).alloc (.cells #[.slice A l.length cp] 41)).alloc (.cells #[.int .i64 (s : Int)] 3) := ⟨_, rfl⟩
  have HWA := Lib.hid hWA
  have BA : Hid (Below w.heap.size w WA) := Lib.hid (by rw [hWA]; exact Mo.Nb B2.out (Mo.al _ _))
  have ZA : Hid (WA.heap.size = w.heap.size + 3) := Lib.hid (by rw [hWA]; simp)
  have BX : Hid (Mo.Box WA w.heap.size u s A cp l) := Lib.hid (by
    rw [hWA]
    refine ⟨((Bk.new w 3 #[.int .i64 (u : Int)]).bt (Mo.al _ _)).bt (Mo.al _ _), ?_, ?_, hz.below (Mo.Nb B2.out (Mo.al _ _)) (Nat.le_refl _)⟩
    · have := (Bk.new (w.alloc (.cells #[.int .i64 (u : Int)] 3)) 41 #[.slice A l.length cp]).bt (Mo.al _ (.cells #[.int .i64 (s : Int)] 3))
      simp only [World.size_alloc] at this
      exact this
    · have := Bk.new ((w.alloc (.cells #[.int .i64 (u : Int)] 3)).alloc (.cells #[.slice A l.length cp] 41)) 3 #[.int .i64 (s : Int)]
      simp only [World.size_alloc] at this
      exact this)
  clear hz hok hs hWA
  go_enter Tryz.func23, Tryz.ntmps23
  go_wp2_with (first
    | (go_at_call 53; refine (C1.out _ B2.out).mono ?_; rintro e w1 ⟨rfl, rfl⟩)
    | (at_make; suffices hsuf : Hid (wpList _ _ _ _ _ _) from hsuf.out))
  refine Lib.hid ?_
  rw [← HWA.out]
  have HN40 : Hid (l.length < 40) := Lib.hid hl
  obtain ⟨n, hn⟩ : ∃ n, n = l.length := ⟨_, rfl⟩
  have HN := Lib.hid hn
  have hn40 : n < 40 := by omega
  rw [← hn]
  have BX2 : Hid (∀ v, Below WA.heap.size WA v → v.cell? ⟨w.heap.size, 0, none⟩ = some (.int .i64 (u : Int)) ∧ v.cell? ⟨w.heap.size + 1, 0, none⟩ = some (.slice A n cp) ∧ v.cell? ⟨w.heap.size + 2, 0, none⟩ = some (.int .i64 (s : Int))) := Lib.hid (fun v h => by
    have b := (BX.out.below (h.mono (by rw [ZA.out]; exact Nat.le_refl _))).cap
    rw [hn]
    exact ⟨b.u, b.l, b.s⟩)
  clear hn C1
  refine list_make rfl (.tmp 32) (.tmp 32) 41 rfl rfl n (by omega) rfl rfl ?_
  intro w1 hh1 hb1
  obtain ⟨g3, hg3⟩ : ∃ g, g = WA.heap.size := ⟨_, rfl⟩
  rw [← hg3] at hh1 hb1 BX2 ⊢
  have HG3 := Lib.hid hg3
  have HR1 := Lib.hid hh1
  have HB1 := Lib.hid hb1
  obtain ⟨x0, x1, x2⟩ := BX2.out w1 hb1
  clear hh1 hb1 hg3
  go_wp2_with (at_make; suffices hsuf : Hid (wpList _ _ _ _ _ _) from hsuf.out)
  refine Lib.hid ?_
  clear x0 x1 x2
  refine list_make rfl (.tmp 35) (.tmp 35) 41 rfl rfl n (by omega) rfl rfl ?_
  intro w2 hh2 hb2
  obtain ⟨g4, hg4⟩ : ∃ g, g = w1.heap.size := ⟨_, rfl⟩
  have hlt34 : g3 < g4 := by rw [hg4]; exact (Array.getElem?_eq_some_iff.1 HR1.out).1
  have HB2 : Hid (Below g3 WA w2) := Lib.hid (HB1.out.trans (hb2.mono (by rw [← hg4]; omega)))
  have HR3 : Hid (OwnZ w2 g3 g3 n (Mo.upto n 0 (Mo.fl u s (Mo.pn l)))) := Lib.hid (by
    have h := (hb2.block g3 (Array.getElem?_eq_some_iff.1 HR1.out).1).trans HR1.out
    have := own_of_row h (Nat.le_refl _) (by simp; unfold maxLen; omega)
    rw [← Mo.upto_zero]
    simpa using this)
  rw [← hg4] at hh2 ⊢
  have HR4 : Hid (OwnZ w2 g3 g4 n (Mo.upto n 0 (fun i => i))) := Lib.hid (by
    have := own_of_row hh2 (Nat.le_of_lt hlt34) (by simp; unfold maxLen; omega)
    rw [← Mo.upto_zero]
    simpa using this)
  obtain ⟨x0, x1, x2⟩ := BX2.out w2 HB2.out
  clear hh2 hb2 hg4 HB1 HR1
  go_wp2
  have HR5 := Lib.hid (And.intro HR3.out HR4.out)
  clear x0 x1 x2 HR3 HR4
  go_loopw [10, 40] (fun v i wr => ∃ k rest : Nat, k ≤ n ∧ v = .int .i64 (rest : Int) ∧ i = .int .i64 (k : Int) ∧ rest ≤ u ∧ Hid (rest + Mo.sum k (Mo.fl u s (Mo.pn l)) = u) ∧ Hid (OwnZ wr g3 g3 n (Mo.upto n k (Mo.fl u s (Mo.pn l)))) ∧ Hid (OwnZ wr g3 g4 n (Mo.upto n k (fun i => i))) ∧ Hid (Below g3 WA wr)) (fun _ i _ => n - (intOf i).toNat)
  case atStart => exact ⟨0, u, Nat.zero_le _, rfl, rfl, Nat.le_refl _, Lib.hid rfl, Lib.hid HR5.out.1, Lib.hid HR5.out.2, HB2⟩
  case round =>
    clear HR5 HB2
    obtain ⟨k, rest, hk, rfl, rfl, hrest, HSU, HO3, HO4, HB⟩ := hrel
    obtain ⟨x0, x1, x2⟩ := BX2.out wr HB.out
    by_cases hlt : k < n
    · have hlti : (k : Int) < (n : Int) := by omega
      obtain ⟨ad, hA, _, hc⟩ := (BX.out.below (HB.out.mono (by rw [HG3.out, ZA.out]; exact Nat.le_refl _))).zs k (by rw [← HN.out]; exact hlt)
      subst hA
      obtain ⟨p, hp⟩ : ∃ p, p = Mo.pn l k := ⟨_, rfl⟩
      obtain ⟨e1, e2⟩ := Mo.pn_of (HR.out.pre k (by rw [← HN.out]; exact hlt))
      rw [← hp] at e1 e2
      rw [e1] at hc
      obtain ⟨m, hm⟩ : ∃ m, m = u * p := ⟨_, rfl⟩
      have hm2 : m ≤ 1000000000000000000 := by rw [hm]; exact Mo.lim u p hu e2
      obtain ⟨q, hq⟩ : ∃ q, q = m / s := ⟨_, rfl⟩
      have HQ : Hid (q = Mo.fl u s (Mo.pn l) k) := Lib.hid (by rw [hq, hm, hp]; rfl)
      have hq2 : q ≤ m := by rw [hq]; exact Nat.div_le_self _ _
      have hq3 : q ≤ rest := by
        have h1 := HSU.out
        have h2 := Mo.sum_mono (Mo.fl u s (Mo.pn l)) (show k + 1 ≤ n by omega)
        rw [Mo.sum_succ, ← HQ.out] at h2
        have h3 := HF.out.le
        rw [← HN.out] at h3
        omega
      have HSU2 : Hid ((rest - q) + Mo.sum (k + 1) (Mo.fl u s (Mo.pn l)) = u) := Lib.hid (by
        have h1 := HSU.out
        rw [Mo.sum_succ, ← HQ.out]
        omega)
      obtain ⟨rq, hrq⟩ : ∃ rq, rq = rest - q := ⟨_, rfl⟩
      rw [← hrq] at HSU2
      have hrq2 : rq ≤ u := by omega
      have f4 : (rest : Int) - (q : Int) = (rq : Int) := by omega
      have f5 : wrap64 (q : Int) = (q : Int) := Mo.w64 q (by omega)
      have f6 : wrap64 (rq : Int) = (rq : Int) := Mo.w64 rq (by omega)
      have hs0' : ¬ (s : Int) = 0 := by omega
      have hs0'' : ((s : Int) == 0) = false := by simp; omega
      have c3 := HO3.out.cell k (by rw [Mo.upto_len]; exact hlt)
      have r3 := HO3.out.frozen k
      have c4 := HO4.out.cell k (by rw [Mo.upto_len]; exact hlt)
      have r4 := HO4.out.frozen k
      have F1 : Hid (wrap64 ((u : Int) * (p : Int)) = (m : Int)) := Lib.hid (by
        rw [← Int.natCast_mul, ← hm]
        exact Mo.w64 m hm2)
      have F2 : Hid ((m : Int) / (s : Int) = (q : Int)) := Lib.hid (by rw [hq]; rfl)
      have F3 : Hid (Int.tdiv (m : Int) (s : Int) = (q : Int)) := Lib.hid (by rw [hq]; exact Mo.tdiv_cast m s)
      have F5 := Lib.hid f5
      have F4 := Lib.hid f4
      clear hm hq hp e1 hrq f4 f5 f6 hq2 hq3 c4 r4
      go_upto_region 11 with fail
      rw [F1.out, F3.out, F5.out]
      have HP3 : Hid (OwnZ (wr.setCell ⟨g3, k, none⟩ (.int .i64 (q : Int))) g3 g3 n (Mo.upto n (k + 1) (Mo.fl u s (Mo.pn l)))) := Lib.hid (by
        have := HO3.out.stored k (q : Int)
        rw [HQ.out, Mo.upto_step] at this
        rw [HQ.out]
        exact this)
      have HP4 : Hid (OwnZ (wr.setCell ⟨g3, k, none⟩ (.int .i64 (q : Int))) g3 g4 n (Mo.upto n k (fun i => i))) := Lib.hid (HO4.out.other (by omega) k _)
      have HBp : Hid (Below g3 WA (wr.setCell ⟨g3, k, none⟩ (.int .i64 (q : Int)))) := Lib.hid (HB.out.setCell (Nat.le_refl _) _)
      have x3 : (wr.setCell ⟨g3, k, none⟩ (.int .i64 (q : Int))).cell? ⟨g3, k, none⟩ = some (.int .i64 (q : Int)) := by
        have := HP3.out.cell k (by rw [Mo.upto_len]; exact hlt)
        unfold Mo.upto at this
        rw [Mo.row_get _ _ _ hlt, if_pos (by omega), ← HQ.out] at this
        exact this
      have r4 := HP4.out.frozen k
      have c4 := HP4.out.cell k (by rw [Mo.upto_len]; exact hlt)
      clear HO3 HO4 HB c3 r3 x0 x1 x2 hc
      generalize wr.setCell ⟨g3, k, none⟩ (.int .i64 (q : Int)) = w4 at *
      have HP3' : Hid (OwnZ (w4.setCell ⟨g4, k, none⟩ (.int .i64 (k : Int))) g3 g3 n (Mo.upto n (k + 1) (Mo.fl u s (Mo.pn l)))) := Lib.hid (HP3.out.other (by omega) k _)
      have HP4' : Hid (OwnZ (w4.setCell ⟨g4, k, none⟩ (.int .i64 (k : Int))) g3 g4 n (Mo.upto n (k + 1) (fun i => i))) := Lib.hid (by
        have := HP4.out.stored k (k : Int)
        rw [Mo.upto_step n k (fun i => i)] at this
        exact this)
      have HBq : Hid (Below g3 WA (w4.setCell ⟨g4, k, none⟩ (.int .i64 (k : Int)))) := Lib.hid (HBp.out.setCell (Nat.le_of_lt hlt34) _)
      clear HP3 HP4 HBp
      have f4 := F4.out
      go_wp2
      go_roundw
      case rel => exact ⟨k + 1, rq, by omega, rfl, by go_num, by omega, HSU2, HP3', HP4', HBq⟩
      case measure => simp [intOf]; omega
    · have hkn : k = n := by omega
      subst hkn
      have hlti : ¬ (k : Int) < (k : Int) := by omega
      have HL : Hid (rest = Mo.left u s (Mo.pn l) k) := Lib.hid (by
        have h1 := HSU.out
        unfold Mo.left
        omega)
      have hrk : rest ≤ k := by
        have h1 := HF.out.left_cnt
        rw [← HN.out, ← HL.out] at h1
        exact Nat.le_trans h1 (Mo.cnt_bound _ _)
      have HQ3 : Hid (OwnZ wr g3 g3 k (Mo.row k (Mo.fl u s (Mo.pn l)))) := Lib.hid (by rw [← Mo.upto_all]; exact HO3.out)
      have hg4 : g4 < wr.heap.size := HO4.out.facts.2.1
      have HB5 : Hid (Below g3 WA (wr.alloc (.cells #[.func (.func 54) #[] #[.pointer (some ⟨w.heap.size, 0, none⟩), .pointer (some ⟨w.heap.size + 1, 0, none⟩), .pointer (some ⟨w.heap.size + 2, 0, none⟩)]] 76))) := Lib.hid (HB.out.alloc (by omega) _)
      have hzz := ZA.out
      have CS := Lib.hid (Mo.sort_any wr.heap.size w.heap.size (w.heap.size + 1) (w.heap.size + 2) u s (k - 1) A cp g4 l (wr.alloc (.cells #[.func (.func 54) #[] #[.pointer (some ⟨w.heap.size, 0, none⟩), .pointer (some ⟨w.heap.size + 1, 0, none⟩), .pointer (some ⟨w.heap.size + 2, 0, none⟩)]] 76)) (by have := HR.out.some; have := HN.out; omega)
        ((Bk.new wr 76 _).cell 0 _ rfl) (BX.out.below (HB5.out.mono (by rw [HG3.out]; omega))).cap
        (by
          have h := (BX.out.below (HB5.out.mono (by rw [HG3.out]; omega))).zs
          have e : min w.heap.size (min (w.heap.size + 1) (min (w.heap.size + 2) g4)) = w.heap.size := by have := HG3.out; omega
          rw [e]
          exact h) (by have := HG3.out; omega)
        (fun j hj => by
          have h1 := HO4.out.cell j (by rw [Mo.upto_len, HN.out]; exact hj)
          have h2 := HO4.out.frozen j
          unfold Mo.upto at h1
          rw [Mo.row_get _ _ _ (by rw [HN.out]; exact hj), if_pos (by rw [HN.out]; exact hj)] at h1
          have hal := Mo.al wr (.cells #[.func (.func 54) #[] #[.pointer (some ⟨w.heap.size, 0, none⟩), .pointer (some ⟨w.heap.size + 1, 0, none⟩), .pointer (some ⟨w.heap.size + 2, 0, none⟩)]] 76)
          exact ⟨(hal.cell (p := ⟨g4, j, none⟩) hg4).trans h1, (hal.frozen (p := ⟨g4, j, none⟩) hg4).trans h2⟩) (by simp; omega) HN40.out HR.out.pre hu hs0 hs1)
      rw [← HN.out] at CS
      clear HO3 HO4 HSU hzz
      go_wp2_with fail
      refine CS.out.mono ?_
      rintro e w6 ⟨rfl, d, hd, hg6⟩
      have HD := Lib.hid hd
      have HZ6 : Hid (wr.heap.size + 1 ≤ w6.heap.size) := Lib.hid (by have := hg6.size; simpa using this)
      have HS6 : Hid (OwnZ w6 g3 g3 k (Mo.row k (Mo.upS u s k (Mo.pn l) 0))) := Lib.hid (by
        rw [← Mo.upS_zero]
        refine HQ3.out.heap ((hg6.block g3 (by simp; omega) (fun e => by cases e; omega)).trans ?_)
        exact Below.heap_alloc _ _ _ (by omega))
      have HB6 : Hid (Below w.heap.size w w6) := Lib.hid ((BA.out.trans (HB5.out.mono (by rw [HG3.out, ZA.out]; omega))).grown hg6 (by simp; have := HG3.out; have := ZA.out; omega) (fun q hq => by cases hq; have := HG3.out; have := ZA.out; omega))
      clear hd hg6 CS HQ3 HB5 HB x0 x1 x2
      go_wp2
      go_loopw [72] (fun i wr2 => ∃ j : Nat, j ≤ rest ∧ i = .int .i64 (j : Int) ∧ Hid (OwnZ wr2 g3 g3 k (Mo.row k (Mo.upS u s k (Mo.pn l) j))) ∧ Hid (wr2.heap[g4]? = w6.heap[g4]?) ∧ Hid (Below w.heap.size w wr2)) (fun i _ => rest - (intOf i).toNat)
      case atStart => exact ⟨0, Nat.zero_le _, rfl, HS6, Lib.hid rfl, HB6⟩
      case round =>
        clear HS6 HB6
        obtain ⟨j, hj, rfl, HO, HE, HB⟩ := hrel
        by_cases hjr : j < rest
        · have hjz : (j : Int) < (rest : Int) := by omega
          obtain ⟨h1, h2, h3⟩ := HD.out j (by omega)
          obtain ⟨i, hi⟩ : ∃ i, i = (d[j]!).val := ⟨_, rfl⟩
          rw [← hi] at h1 h2 h3
          have c4 : wr.cell? ⟨g4, j, none⟩ = some (.int .i64 (i : Int)) := (World.cell?_of_block (w := w6) (a := ⟨g4, j, none⟩) HE.out).trans h3
          have c3 := HO.out.cell i (by rw [Mo.row_len]; exact h2)
          have r3 := HO.out.frozen i
          rw [Mo.row_get _ _ _ h2] at c3
          have HST := Lib.hid (Mo.upS_step (u := u) (s := s) (p := Mo.pn l) h2 h1)
          obtain ⟨v, hv⟩ : ∃ v, v = Mo.upS u s k (Mo.pn l) j i := ⟨_, rfl⟩
          rw [← hv] at c3 HST
          have hvu : v ≤ 2000000000000000000 := by
            have hq : Mo.fl u s (Mo.pn l) i ≤ u * Mo.pn l i := Nat.div_le_self _ _
            have hq2 := Mo.lim u (Mo.pn l i) hu (Mo.pn_of (HR.out.pre i (by rw [← HN.out]; exact h2))).2
            rw [hv]
            unfold Mo.upS
            split <;> omega
          have HO2 : Hid (OwnZ (wr.setCell ⟨g3, i, none⟩ (.int .i64 ((v : Int) + 1))) g3 g3 k (Mo.row k (Mo.upS u s k (Mo.pn l) (j + 1)))) := Lib.hid (by
            rw [← HST.out]
            exact HO.out.stored i ((v : Int) + 1))
          have HE2 : Hid ((wr.setCell ⟨g3, i, none⟩ (.int .i64 ((v : Int) + 1))).heap[g4]? = w6.heap[g4]?) := Lib.hid ((Below.heap_setCell _ _ _ _ (by show g4 ≠ g3; omega)).trans HE.out)
          have HB2 : Hid (Below w.heap.size w (wr.setCell ⟨g3, i, none⟩ (.int .i64 ((v : Int) + 1)))) := Lib.hid (HB.out.setCell (by show w.heap.size ≤ g3; have := HG3.out; have := ZA.out; omega) _)
          clear h1 h3 hi hv HO HE HB
          go_wp2
          go_roundw
          case rel => exact ⟨j + 1, by omega, by go_num, HO2, HE2, HB2⟩
          case measure => simp [intOf]; omega
        · have hjz : ¬ (j : Int) < (rest : Int) := by omega
          have HOF : Hid (OwnZ wr w.heap.size g3 l.length (Mo.row l.length (Mo.out u (Mo.sum l.length (Mo.pn l)) (Mo.pn l) l.length))) := Lib.hid (by
            have hjl : j = Mo.left u s (Mo.pn l) k := by have := HL.out; omega
            have h := HO.out
            rw [hjl, Mo.upS_end] at h
            rw [← HS.out, ← HN.out]
            obtain ⟨q1, q2⟩ := h
            refine ⟨q1, ?_⟩
            rcases q2 with q2 | ⟨g', cap, cur, hv, hg, r⟩
            · exact .inl q2
            · exact .inr ⟨g', cap, cur, hv, by have := HG3.out; have := ZA.out; omega, r⟩)
          clear HO HD HE
          go_wp2
          go_ret2
          exact ⟨g3, by rw [← HN.out]; rfl, HOF.out, HB.out⟩
end Go.Proofs.YtkbncdcphohmiaaGreatDoor
