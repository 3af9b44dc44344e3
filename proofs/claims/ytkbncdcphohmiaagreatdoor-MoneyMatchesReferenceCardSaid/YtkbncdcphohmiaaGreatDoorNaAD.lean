import Derived.Test.YtkbncdcphohmiaaGreatDoorNaMath
import Derived.Test.YtkbncdcphohmiaaGreatDoorProg
import Derived.WalkKit
import Derived.Below
import Derived.LoopTactic
import Derived.OwnWalk
import Derived.Outline
import Derived.Lib.Hide
import Derived.BigQuiet
import Derived.Laws.OwnMore
import Derived.Deep.OwnRows
import Derived.Laws.CopyOwn
import Derived.Deep.AppendLies
import Derived.Lib.SliceRun
import Derived.Laws.AppendOwn
/- Numbers in limbs as values of the program: trimmed, isZero, above, compare. -/
set_option linter.unusedSimpArgs false
set_option linter.unusedVariables false
namespace Go.Proofs.YtkbncdcphohmiaaGreatDoor
open Go.RowKit
set_option maxRecDepth 100000

/-- The slice of numbers: its cells. -/
def Ints (w : World) (B : Nat) (A : Option Addr) (l : List Nat) : Prop :=
  ∀ k, k < l.length → ∃ ad, A = some ad ∧ ad.block < B ∧ w.cell? (ad.add k) = some (.int .i64 ((l.getD k 0 : Nat) : Int))

def lenOf : Value → Nat
  | .slice _ n _ => n
  | _ => 0

theorem ret_int {a b : Int} (h : a = b) : Ending.returned (.int .i64 a) = Ending.returned (.int .i64 b) := by rw [h]

theorem trimmed_any (A : Option Addr) (l : List Nat) (c : Nat) (w : World) (hs : Ints w w.heap.size A l) (hl : l.length ≤ 1000000) (hc : l.length ≤ c) (hm : c ≤ maxLen) (hd : ∀ d ∈ l, d < 1000000) :
    Calls Tryz.prog 154 #[.slice A l.length c] w fun e w' => e = .returned (.slice A (Na.lim (Na.lv l)).length c) ∧ w = w' := by
  go_enter Tryz.func154, Tryz.ntmps154
  go_wp2
  go_loop [0] (fun a => ∃ k, a = .slice A k c ∧ k ≤ l.length ∧ Hid (l.drop k = List.replicate (l.length - k) 0)) (fun a => lenOf a)
  case atStart => exact ⟨l.length, rfl, Nat.le_refl _, Lib.hid (by simp)⟩
  case round =>
    obtain ⟨k, rfl, hk, HZ⟩ := hrel
    by_cases h0 : k = 0
    · subst h0
      go_wp2
      go_ret
      refine ⟨?_, rfl⟩
      have := Na.lim_trim l 0 hk hd HZ.out (.inl rfl)
      rw [this]
      simp
    · obtain ⟨j, rfl⟩ : ∃ j, k = j + 1 := ⟨k - 1, by omega⟩
      obtain ⟨ad, rfl, hlt, hcell⟩ := hs j (by omega)
      have hmc : j + 1 ≤ c := by omega
      have HX := Lib.hid (Na.drop_zero_step l j (by omega))
      have HT := Lib.hid (Na.lim_trim l (j + 1) hk hd HZ.out)
      simp only [Nat.add_sub_cancel] at HT
      have HZ' := HZ
      clear hd HZ
      generalize l.getD j 0 = x at *
      by_cases hz : x = 0
      · subst hz
        have hcell : w.cell? (ad.add j) = some (.int .i64 0) := hcell
        go_wp2
        exact ⟨⟨j, rfl, by omega, Lib.hid (HX.out HZ'.out rfl)⟩, by simp [lenOf]⟩
      · have hne : ((x : Int) == 0) = false := by simp; omega
        go_wp2
        go_ret
        refine ⟨?_, rfl⟩
        rw [HT.out (.inr hz), List.length_take, Nat.min_eq_left hk]
        rfl

theorem isZero_any (A : Option Addr) (n c : Nat) (w : World) :
    Calls Tryz.prog 115 #[.slice A n c] w fun e w' => e = .returned (.bool (decide (n = 0))) ∧ w = w' := by
  by_cases h : n = 0
  · subst h
    go_enter Tryz.func115, Tryz.ntmps115
    go_wp2
    go_ret
    exact ⟨rfl, rfl⟩
  · have h2 : ((n : Int) == 0) = false := by simp; omega
    go_enter Tryz.func115, Tryz.ntmps115
    go_wp2
    go_ret
    refine ⟨?_, rfl⟩
    simp [h]

/-- The value of the limbs from a place on, if it fits. -/
theorem above_any (A : Option Addr) (l : List Nat) (c k : Nat) (w : World) (hs : Ints w w.heap.size A l) (hl : l.length ≤ 1000000) (hk : k ≤ l.length) (hd : ∀ d ∈ l, d < 1000000) (hv : Na.lv (l.drop k) < 1000000000000000000) :
    Calls Tryz.prog 173 #[.slice A l.length c, .int .i64 (k : Int)] w fun e w' => e = .returned (.int .i64 ((Na.lv (l.drop k) : Nat) : Int)) ∧ w = w' := by
  go_enter Tryz.func173, Tryz.ntmps173
  go_wp2
  go_loop [5, 6] (fun v i => ∃ j q : Nat, k ≤ j ∧ j ≤ l.length ∧ i = .int .i64 ((j : Int) - 1) ∧ v = .int .i64 (q : Int) ∧ Hid (q = Na.lv (l.drop j))) (fun _ i => (intOf i + 1).toNat)
  case atStart => exact ⟨l.length, 0, hk, Nat.le_refl _, by simp, rfl, Lib.hid (by simp [Na.lv_nil])⟩
  case round =>
    obtain ⟨j, q, hkj, hj, rfl, rfl, HQ⟩ := hrel
    by_cases h0 : j = k
    · subst h0
      have HQ' := Lib.hid HQ.out
      go_wp2
      go_ret
      exact ⟨ret_int (by rw [HQ.out]), rfl⟩
    · obtain ⟨i, rfl⟩ : ∃ i, j = i + 1 := ⟨j - 1, by omega⟩
      obtain ⟨ad, rfl, hlt, hcell⟩ := hs i (by omega)
      have e := Na.lv_drop l i (by omega)
      have hx := Na.getD_lt hd i (by omega)
      have hle : Na.lv (l.drop i) ≤ Na.lv (l.drop k) := by
        have := Na.lv_append ((l.drop k).take (i - k)) ((l.drop k).drop (i - k))
        rw [List.take_append_drop, List.drop_drop, show k + (i - k) = i by omega] at this
        have h1 : 1 * Na.lv (l.drop i) ≤ 1000000 ^ ((l.drop k).take (i - k)).length * Na.lv (l.drop i) := Nat.mul_le_mul_right _ (Nat.pos_of_ne_zero (by simp))
        omega
      rw [← HQ.out] at e
      have hq : q * 1000000 + l.getD i 0 < 1000000000000000000 := by omega
      have HE := Lib.hid e
      clear e hle hd HQ
      generalize l.getD i 0 = x at *
      go_wp2
      exact ⟨⟨i, q * 1000000 + x, by omega, by omega, by go_num, by go_num, Lib.hid (by rw [HE.out]; omega)⟩, by simp [intOf]⟩

theorem above_out (A : Option Addr) (l : List Nat) (c k : Nat) (w : World) (hl : l.length ≤ 1000000) (hk : l.length < k) :
    Calls Tryz.prog 173 #[.slice A l.length c, .int .i64 (k : Int)] w fun e w' => e = .returned (.int .i64 ((Na.lv (l.drop k) : Nat) : Int)) ∧ w = w' := by
  rw [List.drop_eq_nil_of_le (by omega), Na.lv_nil]
  have h1 : ¬ ((k : Int) ≤ (l.length : Int) - 1) := by omega
  go_enter Tryz.func173, Tryz.ntmps173
  go_wp2
  go_loop [5, 6] (fun v i => i = .int .i64 ((l.length : Int) - 1) ∧ v = .int .i64 0) (fun _ _ => 0)
  case atStart => exact ⟨rfl, rfl⟩
  case round =>
    obtain ⟨rfl, rfl⟩ := hrel
    go_wp2
    go_ret
    exact ⟨rfl, rfl⟩

theorem above_all (A : Option Addr) (l : List Nat) (c k : Nat) (w : World) (hs : Ints w w.heap.size A l) (hl : l.length ≤ 1000000) (hd : ∀ d ∈ l, d < 1000000) (hv : Na.lv (l.drop k) < 1000000000000000000) :
    Calls Tryz.prog 173 #[.slice A l.length c, .int .i64 (k : Int)] w fun e w' => e = .returned (.int .i64 ((Na.lv (l.drop k) : Nat) : Int)) ∧ w = w' := by
  rcases Nat.lt_or_ge l.length k with h | h
  · exact above_out A l c k w hl h
  · exact above_any A l c k w hs hl h hd hv

theorem cmpInt_any (a b : Int) (w : World) :
    Calls Tryz.prog 57 #[.int .i64 a, .int .i64 b] w fun e w' => e = .returned (.int .i64 (if a < b then -1 else if b < a then 1 else 0)) ∧ w = w' := by
  rcases Int.lt_trichotomy a b with h | h | h
  · go_enter Tryz.func57, Tryz.ntmps57
    go_wp2
    go_ret
    exact ⟨ret_int (by simp [h]), rfl⟩
  · subst h
    go_enter Tryz.func57, Tryz.ntmps57
    go_wp2
    go_ret
    exact ⟨ret_int (by simp), rfl⟩
  · have h2 : ¬ a < b := by omega
    go_enter Tryz.func57, Tryz.ntmps57
    go_wp2
    go_ret
    exact ⟨ret_int (by simp [h, h2]), rfl⟩

theorem drew_ex2 {w v : World} {q : Nat} (h : ∃ j k, v = ((w.drewN q).drewN j).drewN k) : ∃ k, v = w.drewN k := by
  obtain ⟨j, k, rfl⟩ := h
  exact ⟨q + j + k, by rw [World.drewN_drewN, World.drewN_drewN, Nat.add_assoc]⟩

/-- The order of two numbers. -/
def cmpN (m n : Nat) : Int := if m < n then -1 else if n < m then 1 else 0

theorem compare_any (A A' : Option Addr) (m n c c' : Nat) (w : World) (hs : Ints w w.heap.size A (Na.lim m)) (hs' : Ints w w.heap.size A' (Na.lim n)) (hl : (Na.lim m).length ≤ 1000000) (hl' : (Na.lim n).length ≤ 1000000) :
    Calls Tryz.prog 131 #[.slice A (Na.lim m).length c, .slice A' (Na.lim n).length c'] w fun e w' => e = .returned (.int .i64 (cmpN m n)) ∧ ∃ q, w' = w.drewN q := by
  have HC := Lib.hid (fun a b w => cmpInt_any a b w)
  by_cases hne : (Na.lim m).length = (Na.lim n).length
  · have h2 : (((Na.lim m).length : Int) == ((Na.lim n).length : Int)) = true := by simp [hne]
    have CM := Lib.hid (fun k (hk : k < (Na.lim m).length) he hlt => Na.lv_cmp (Na.lim m) (Na.lim n) (Na.lim_lt m) (Na.lim_lt n) hne k hk he hlt)
    have CN := Lib.hid (fun k (hk : k < (Na.lim n).length) he hlt => Na.lv_cmp (Na.lim n) (Na.lim m) (Na.lim_lt n) (Na.lim_lt m) hne.symm k hk he hlt)
    have hdm := Lib.hid (Na.lv_lim m)
    have hdn := Lib.hid (Na.lv_lim n)
    have DM := Lib.hid (fun k (hk : k < (Na.lim m).length) => Na.drop_cons' (Na.lim m) k hk)
    have DN := Lib.hid (fun k (hk : k < (Na.lim n).length) => Na.drop_cons' (Na.lim n) k hk)
    generalize Na.lim m = a at *
    generalize Na.lim n = b at *
    go_enter Tryz.func131, Tryz.ntmps131
    go_wp2
    go_loopw [5] (fun i wr => ∃ j q : Nat, j ≤ a.length ∧ i = .int .i64 ((j : Int) - 1) ∧ Hid (a.drop j = b.drop j) ∧ wr = w.drewN q) (fun i _ => (intOf i + 1).toNat)
    case atStart => exact ⟨a.length, 0, Nat.le_refl _, by simp [hne], Lib.hid (by rw [List.drop_length, hne, List.drop_length]), rfl⟩
    case round =>
      obtain ⟨j, q, hj, eij, HD, rfl⟩ := hrel
      by_cases h0 : j = 0
      · subst h0
        subst eij
        go_wp2
        go_ret
        refine ⟨?_, q, rfl⟩
        have : m = n := by
          rw [← hdm.out, ← hdn.out]
          have := HD.out
          simpa using congrArg Na.lv this
        exact ret_int (by simp [cmpN, this])
      · obtain ⟨i, rfl⟩ : ∃ i, j = i + 1 := ⟨j - 1, by omega⟩
        obtain rfl := eij.trans (show Value.int .i64 (((i + 1 : Nat) : Int) - 1) = .int .i64 (i : Int) by congr 1; omega)
        clear eij
        obtain ⟨ad, rfl, hlt, hcell⟩ := hs i (by omega)
        obtain ⟨ad', rfl, hlt', hcell'⟩ := hs' i (by omega)
        have CM' := Lib.hid (CM.out i (by omega) HD.out)
        have CN' := Lib.hid (CN.out i (by omega) HD.out.symm)
        rw [hdm.out, hdn.out] at CM' CN'
        have DD := Lib.hid (fun (e : a.getD i 0 = b.getD i 0) => show a.drop i = b.drop i by rw [DM.out i (by omega), DN.out i (by omega), HD.out, e])
        have bl : (i : Int) < (b.length : Int) := by omega
        have bl2 : (i : Int) < (a.length : Int) := by omega
        clear CM CN DM DN hs hs'
        generalize a.getD i 0 = x at *
        generalize b.getD i 0 = y at *
        rcases Nat.lt_trichotomy x y with h | h | h
        · have h1 : ((x : Int) == (y : Int)) = false := by simp; omega
          have hr : (if (x : Int) < (y : Int) then (-1 : Int) else if (y : Int) < (x : Int) then 1 else 0) = cmpN m n := by
            unfold cmpN
            rw [if_pos (by omega), if_pos (CM'.out h)]
          have HC2 := Lib.hid (fun w => HC.out (x : Int) (y : Int) w)
          rw [hr] at HC2
          clear hr HC
          go_wp2_with fail
          go_quiet (fail)
          go_wp2_with fail

          go_quiet ((go_at_call 57; exact (HC2.out _).mono fun _ _ h => ⟨h.1, _, h.2.symm⟩))
          go_wp2_with fail
          go_ret
          exact ⟨rfl, drew_ex2 ⟨_, _, rfl⟩⟩
        · subst h
          have DD' := Lib.hid (DD.out rfl)
          have h1 : ((x : Int) == (x : Int)) = true := by simp
          clear DD
          go_wp2_with fail
          go_quiet (fail)
          go_wp2_with fail
          exact ⟨⟨i, q + nq, by omega, by go_num, DD', rfl⟩, by simp [intOf]⟩
        · have h1 : ((x : Int) == (y : Int)) = false := by simp; omega
          have hr : (if (x : Int) < (y : Int) then (-1 : Int) else if (y : Int) < (x : Int) then 1 else 0) = cmpN m n := by
            unfold cmpN
            rw [if_neg (by omega), if_pos (by omega), if_neg (by have := CN'.out h; omega), if_pos (CN'.out h)]
          have HC2 := Lib.hid (fun w => HC.out (x : Int) (y : Int) w)
          rw [hr] at HC2
          clear hr HC
          go_wp2_with fail
          go_quiet (fail)
          go_wp2_with fail

          go_quiet ((go_at_call 57; exact (HC2.out _).mono fun _ _ h => ⟨h.1, _, h.2.symm⟩))
          go_wp2_with fail
          go_ret
          exact ⟨rfl, drew_ex2 ⟨_, _, rfl⟩⟩
  · have h2 : (((Na.lim m).length : Int) == ((Na.lim n).length : Int)) = false := by simp; omega
    have hgt := Lib.hid (fun h => Na.lim_longer (m := m) (n := n) h)
    have hgt' := Lib.hid (fun h => Na.lim_longer (m := n) (n := m) h)
    generalize (Na.lim m).length = a at *
    generalize (Na.lim n).length = b at *
    go_enter Tryz.func131, Tryz.ntmps131
    have hr : (if (a : Int) < (b : Int) then (-1 : Int) else if (b : Int) < (a : Int) then 1 else 0) = cmpN m n := by
      unfold cmpN
      rcases Nat.lt_or_gt_of_ne hne with h | h
      · have := hgt.out h
        simp [h, this]
      · have := hgt'.out h
        rw [if_neg (by omega), if_pos (by omega), if_neg (by omega), if_pos this]
    have HC2 := Lib.hid (HC.out (a : Int) (b : Int) w)
    rw [hr] at HC2
    clear hr
    go_wp2_with (go_at_call 57; refine HC2.out.mono ?_; rintro e w1 ⟨rfl, rfl⟩)
    go_ret
    exact ⟨rfl, 0, rfl⟩
end Go.Proofs.YtkbncdcphohmiaaGreatDoor

/- A list of numbers that the call has made itself, read and written in place; carrying (settled). -/
set_option linter.unusedSimpArgs false
set_option linter.unusedVariables false
namespace Go.Proofs.YtkbncdcphohmiaaGreatDoor
open Go.RowKit
set_option maxRecDepth 100000

def OwnZ (w : World) (B g c : Nat) (l : List Int) : Prop := w.ownsRow B 3 1 (.slice (some ⟨g, 0, none⟩) l.length c) l.length (l.map (Value.int .i64))

theorem OwnZ.facts {w : World} {B g c : Nat} {l : List Int} (h : OwnZ w B g c l) : B ≤ g ∧ g < w.heap.size ∧ l.length ≤ c ∧ c ≤ maxLen := by
  rcases h.2 with ⟨h', _⟩ | ⟨g', cap', cur, h', hb, hg, hnc, hcm, _⟩
  · simp at h'
  · simp only [Value.slice.injEq, Option.some.injEq, Addr.mk.injEq, and_true, true_and] at h'
    obtain ⟨rfl, rfl⟩ := h'
    exact ⟨hb, (Array.getElem?_eq_some_iff.1 hg).1, hnc, hcm⟩

theorem OwnZ.cell {w : World} {B g c : Nat} {l : List Int} (h : OwnZ w B g c l) (k : Nat) (hk : k < l.length) : w.cell? ⟨g, k, none⟩ = some (.int .i64 (l.getD k 0)) := by
  have := World.ownsRow.cellAt h k (by omega)
  rw [this, List.getElem?_map, List.getElem?_eq_getElem hk, List.getD_eq_getElem?_getD, List.getElem?_eq_getElem hk]
  rfl

theorem OwnZ.frozen {w : World} {B g c : Nat} {l : List Int} (h : OwnZ w B g c l) (k : Nat) : w.frozen? ⟨g, k, none⟩ = false := World.ownsRow.frozenAt h k

theorem OwnZ.stored {w : World} {B g c : Nat} {l : List Int} (h : OwnZ w B g c l) (k : Nat) (u : Int) : OwnZ (w.setCell ⟨g, k, none⟩ (.int .i64 u)) B g c (l.set k u) := by
  have := (World.ownsRow.stored h k (.int .i64 u)).1
  unfold OwnZ
  rw [List.length_set, List.map_set]
  exact this

theorem OwnZ.below {w w0 : World} {B g c : Nat} {l : List Int} (h : OwnZ w B g c l) (hb : Below B w0 w) (k : Nat) (u : Int) : Below B w0 (w.setCell ⟨g, k, none⟩ (.int .i64 u)) :=
  hb.trans ((Below.refl _ _).grown (World.ownsRow.stored h k (.int .i64 u)).2 (Nat.le_trans h.facts.1 (Nat.le_of_lt h.facts.2.1)) fun j hj => by cases hj; exact h.facts.1)

theorem OwnZ.ints {w : World} {B g c : Nat} {l : List Int} {p : List Nat} (h : OwnZ w B g c l) (hp : l = p.map fun n : Nat => (n : Int)) : Ints w w.heap.size (some ⟨g, 0, none⟩) p := by
  intro k hk
  refine ⟨_, rfl, h.facts.2.1, ?_⟩
  have := h.cell k (by rw [hp]; simpa using hk)
  rw [hp] at this
  have e : (⟨g, 0, none⟩ : Addr).add k = ⟨g, k, none⟩ := by
    simp only [Addr.add, Nat.zero_add]
    split
    · subst_vars; rfl
    · rfl
  rw [e, this, List.getD_eq_getElem?_getD, List.getElem?_map, List.getElem?_eq_getElem hk, List.getD_eq_getElem?_getD, List.getElem?_eq_getElem hk]
  rfl

theorem Ints.take {w : World} {B : Nat} {A : Option Addr} {l : List Nat} (h : Ints w B A l) (k : Nat) : Ints w B A (l.take k) := by
  intro j hj
  rw [List.length_take] at hj
  obtain ⟨ad, e, h1, h2⟩ := h j (by omega)
  refine ⟨ad, e, h1, ?_⟩
  rw [h2, List.getD_eq_getElem?_getD, List.getD_eq_getElem?_getD, List.getElem?_take_of_lt (by omega)]

/-- Dividing towards zero and what is left, carried: as dividing downwards. -/
theorem tdiv_facts (y : Int) : (Int.tmod y 1000000 < 0 → Int.tdiv y 1000000 - 1 = y / 1000000 ∧ Int.tmod y 1000000 + 1000000 = y % 1000000) ∧ (¬ Int.tmod y 1000000 < 0 → Int.tdiv y 1000000 = y / 1000000 ∧ Int.tmod y 1000000 = y % 1000000) := by
  have h1 := Int.mul_tdiv_add_tmod y 1000000
  have h2 : Int.tmod y 1000000 < 1000000 := Int.tmod_lt_of_pos y (by omega)
  have h3 : -1000000 < Int.tmod y 1000000 := by
    have := Int.tmod_lt_of_pos (-y) (b := 1000000) (by omega)
    rw [Int.neg_tmod] at this
    omega
  generalize Int.tmod y 1000000 = r at *
  generalize Int.tdiv y 1000000 = q at *
  omega

theorem getD_app (p : List Nat) (l : List Int) (k : Nat) (h : p.length = k) : ((p.map fun n : Nat => (n : Int)) ++ l.drop k).getD k 0 = l.getD k 0 := by
  rw [List.getD_eq_getElem?_getD, List.getD_eq_getElem?_getD, List.getElem?_append_right (by simp [h]), List.length_map, h, Nat.sub_self, List.getElem?_drop, Nat.add_zero]

theorem set_app (p : List Nat) (l : List Int) (k : Nat) (u : Nat) (h : p.length = k) (hk : k < l.length) : ((p.map fun n : Nat => (n : Int)) ++ l.drop k).set k (u : Int) = ((p ++ [u]).map fun n : Nat => (n : Int)) ++ l.drop (k + 1) := by
  rw [List.set_append_right _ _ (by simp [h]), List.length_map, h, Nat.sub_self, List.drop_eq_getElem_cons hk, List.set_cons_zero, List.map_append, List.append_assoc]
  rfl

theorem settled_any (B g c n : Nat) (l : List Int) (w : World) (ho : OwnZ w B g c l) (hl : l.length ≤ 1000000) (hz : ∀ z ∈ l, -20000000000000000 ≤ z ∧ z ≤ 20000000000000000) (hv : Na.lz l = (n : Int)) (hn : n < 1000000 ^ l.length) :
    Calls Tryz.prog 151 #[.slice (some ⟨g, 0, none⟩) l.length c] w fun e w' => e = .returned (.slice (some ⟨g, 0, none⟩) (Na.lim n).length c) ∧ Ints w' w'.heap.size (some ⟨g, 0, none⟩) (Na.lim n) ∧ Below B w w' := by
  have HZ := Lib.hid hz
  have HV := Lib.hid hv
  have HN := Lib.hid hn
  have hcm := ho.facts.2.2
  have HO := Lib.hid ho
  clear hz hv hn ho
  go_enter Tryz.func151, Tryz.ntmps151
  go_wp2
  go_loopw [3, 4, 5, 8] (fun cr _ _ i wr => ∃ (k : Nat) (p : List Nat) (x : Int), k ≤ l.length ∧ i = .int .i64 (k : Int) ∧ cr = .int .i64 x ∧ -100000000000 ≤ x ∧ x ≤ 100000000000 ∧ Hid (p.length = k) ∧ Hid (∀ d ∈ p, d < 1000000) ∧ Hid ((Na.lv p : Int) + ((1000000 ^ k : Nat) : Int) * (x + Na.lz (l.drop k)) = (n : Int)) ∧ Hid (OwnZ wr B g c ((p.map fun n : Nat => (n : Int)) ++ l.drop k)) ∧ Below B w wr) (fun _ _ _ i _ => l.length - (intOf i).toNat)
  case atStart => exact ⟨0, [], 0, by omega, rfl, rfl, by omega, by omega, Lib.hid rfl, Lib.hid (by simp), Lib.hid (by simpa [Na.lv_nil] using HV.out), Lib.hid (by simpa using HO.out), Below.refl _ _⟩
  case round =>
    obtain ⟨k, p, x, hk, rfl, rfl, hx1, hx2, HP, HD, HE, HR, hb⟩ := hrel
    by_cases hlt : k < l.length
    · have hcell := HR.out.cell k (by simp [HP.out]; omega)
      rw [getD_app p l k HP.out] at hcell
      have hzb := HZ.out (l.getD k 0) (by rw [List.getD_eq_getElem?_getD, List.getElem?_eq_getElem hlt]; exact List.getElem_mem hlt)
      have HLD := Lib.hid (Na.lz_drop l k hlt)
      have hfr := HR.out.frozen k
      have HST := Lib.hid (fun u : Nat => (set_app p l k u HP.out hlt) ▸ HR.out.stored k (u : Int))
      have HSB := Lib.hid (fun u : Nat => HR.out.below hb k (u : Int))
      generalize l.getD k 0 = z at *
      have hT := tdiv_facts (z + x)
      have hu : ((z + x) % 1000000) = ((((z + x) % 1000000).toNat : Nat) : Int) := by omega
      have HQ := Lib.hid (Na.carry_step p k x z (Na.lz (l.drop (k + 1))) n HP.out (by rw [← HLD.out]; exact HE.out))
      have hul : ((z + x) % 1000000).toNat < 1000000 := by omega
      have fin : ∃ (k_1 : Nat) (p : List Nat) (x_1 : Int), k_1 ≤ l.length ∧ Value.int IntKind.i64 ((k : Int) + 1) = Value.int IntKind.i64 (k_1 : Int) ∧ Value.int IntKind.i64 ((z + x) / 1000000) = Value.int IntKind.i64 x_1 ∧ -100000000000 ≤ x_1 ∧ x_1 ≤ 100000000000 ∧ Hid (p.length = k_1) ∧ Hid (∀ d ∈ p, d < 1000000) ∧ Hid ((Na.lv p : Int) + ((1000000 ^ k_1 : Nat) : Int) * (x_1 + Na.lz (l.drop k_1)) = (n : Int)) ∧ Hid (OwnZ (wr.setCell ⟨g, k, none⟩ (.int .i64 ((z + x) % 1000000))) B g c ((p.map fun n : Nat => (n : Int)) ++ l.drop k_1)) ∧ Below B w (wr.setCell ⟨g, k, none⟩ (.int .i64 ((z + x) % 1000000))) := by
        generalize ((z + x) % 1000000).toNat = u at *
        rw [hu]
        refine ⟨k + 1, p ++ [u], _, by omega, by go_num, rfl, by omega, by omega, Lib.hid (by rw [List.length_append, HP.out]; rfl), Lib.hid ?_, Lib.hid HQ.out, Lib.hid (HST.out u), HSB.out u⟩
        intro d hd
        rcases List.mem_append.1 hd with h | h
        · exact HD.out d h
        · have : d = u := by simpa using h
          omega
      have FIN := Lib.hid fin
      clear hu HQ hul fin HST HSB HLD HE HV HN
      by_cases hneg : Int.tmod (z + x) 1000000 < 0
      · go_wp2
        exact ⟨FIN.out, by simp [intOf]; omega⟩
      · have ht := hT.2 hneg
        go_wp2
        exact ⟨FIN.out, by simp [intOf]; omega⟩
    · obtain rfl : k = l.length := by omega
      have e := Na.carry_end p l.length n x HP.out HD.out (by simpa [Na.lz_nil] using HE.out) HN.out
      have hpl := HP.out
      have ho : OwnZ wr B g c (p.map fun n : Nat => (n : Int)) := by simpa using HR.out
      have hi := ho.ints rfl
      have TR := Lib.hid (trimmed_any (some ⟨g, 0, none⟩) p c wr hi (by omega) (by omega) hcm.2 HD.out)
      rw [e, hpl] at TR
      have HT : Hid (Ints wr wr.heap.size (some ⟨g, 0, none⟩) (Na.lim n)) := by
        have h1 : Na.lim n = p.take (Na.lim n).length := by
          rw [← e]
          exact Na.lim_take p HD.out
        refine Lib.hid ?_
        rw [h1]
        exact hi.take _
      clear hi ho HE HP HD HV HN
      go_wp2_with fail
      refine TR.out.mono ?_
      rintro e w1 ⟨rfl, rfl⟩
      go_wp2_with fail
      go_ret
      exact ⟨rfl, HT.out, hb⟩
end Go.Proofs.YtkbncdcphohmiaaGreatDoor

/- Sums, differences and products of numbers in limbs. -/
set_option linter.unusedSimpArgs false
set_option linter.unusedVariables false
namespace Go.Proofs.YtkbncdcphohmiaaGreatDoor
open Go.RowKit
set_option maxRecDepth 100000

theorem infoI : (Tryz.prog.info? 3).map (fun i => (i.zero, i.size, i.bytes)) = some (some (.int .i64 0), 1, 8) := by kernel_rfl

theorem own_of_row {w : World} {B g : Nat} {l : List Int} (h : w.heap[g]? = some (.cells (l.map (Value.int .i64)).toArray 3 (0, 0))) (hB : B ≤ g) (hl : l.length ≤ maxLen) : OwnZ w B g l.length l :=
  ⟨by simp, .inr ⟨g, l.length, _, rfl, hB, h, Nat.le_refl _, hl, by simp, by simp [List.take_of_length_le]⟩⟩

/-- 'make([]int, n)'. -/
theorem list_make {w : World} {ops : Array Oper} {rest : List Oper} {o : Oper} {a : Act} {Q : Exit → Act → World → Prop} (hg : o.guard = none) (l c : Operand) (t : TypeId) (hop : o.op = Op.makeSlice t l c) (ht : Tryz.prog.underlying t = some (.slice 3))
    (n : Nat) (hn : n ≤ 1000000) (hl : a.eval l = .int .i64 (n : Int)) (hc : a.eval c = .int .i64 (n : Int))
    (h : ∀ w', w'.heap[w.heap.size]? = some (.cells ((List.replicate n (0 : Int)).map (Value.int .i64)).toArray 3 (0, 0)) → Below w.heap.size w w' → wpList Tryz.prog ops Q rest (a.put o.dst (.slice (some ⟨w.heap.size, 0, none⟩) n n)) w') :
    wpList Tryz.prog ops Q (o :: rest) a w := by
  obtain ⟨i0, hi, hz0, hz1, hz2⟩ := info_parts infoI
  refine wpList_plain hg fun K hK' => ?_
  have hrun := run_make_row (P := Tryz.prog) t 3 i0 (.int .i64 0) ht hi hz0 hz1 rfl .i64 .i64 n (by rw [hz2]; omega) (by omega) w
  unfold Oper.wp
  simp [execOp, hop, hl, hc, hrun, Result.andThen]
  refine hK' _ _ (h _ ?_ ((Below.refl _ _).alloc (Nat.le_refl _) _))
  rw [heap_alloc_new]
  have e : madeCells #[Value.int .i64 0] n = ((List.replicate n (0 : Int)).map (Value.int .i64)).toArray := by
    apply Array.ext'
    rw [toList_madeCells_one]
    simp
  rw [e]

/-- What a function that makes a number returns. -/
def GivesN (n : Nat) (w : World) (e : Ending) (w' : World) : Prop :=
  ∃ A c, e = .returned (.slice A (Na.lim n).length c) ∧ Ints w' w'.heap.size A (Na.lim n) ∧ (Na.lim n).length ≤ c ∧ c ≤ maxLen ∧ Below w.heap.size w w'

theorem mem_set' {l : List Int} {k : Nat} {u z : Int} (h : z ∈ l.set k u) : z ∈ l ∨ z = u := by
  rcases List.mem_or_eq_of_mem_set h with h | h
  · exact .inl h
  · exact .inr h

theorem Ints.bt {w w' : World} {A : Option Addr} {l : List Nat} (h : Ints w w.heap.size A l) (hb : Below w.heap.size w w') : Ints w' w'.heap.size A l := fun k hk => by
  obtain ⟨ad, rfl, hlt, hc⟩ := h k hk
  have e : (ad.add k).block = ad.block := by
    unfold Addr.add
    split <;> rfl
  exact ⟨ad, rfl, Nat.lt_of_lt_of_le hlt hb.size, (hb.cell (p := ad.add k) (by rw [e]; exact hlt)).trans hc⟩

theorem splice_row (a : List Nat) (n : Nat) : splice ((List.replicate n (0 : Int)).map (Value.int .i64)) 0 (a.map fun d : Nat => Value.int .i64 (d : Int)) = ((a.map fun d : Nat => (d : Int)) ++ List.replicate (n - a.length) 0).map (Value.int .i64) := by
  unfold splice
  simp

theorem infoIs : (Tryz.prog.info? 3).map (·.size) = some 1 := by kernel_rfl

theorem src_ints {w w' : World} {A : Option Addr} {a : List Nat} (hs : Ints w w.heap.size A a) (hb : Below w.heap.size w w') (h0 : 0 < (a.map fun d : Nat => Value.int .i64 (d : Int)).length) :
    ∃ ad, A = some ad ∧ ∀ j v, (a.map fun d : Nat => Value.int .i64 (d : Int))[j]? = some v → w'.cell? (ad.add j) = some v := by
  have h0 : 0 < a.length := by simpa using h0
  obtain ⟨ad, rfl, _, _⟩ := hs 0 h0
  refine ⟨ad, rfl, fun j v hj => ?_⟩
  have hjl : j < a.length := by
    rw [List.getElem?_map] at hj
    rcases Nat.lt_or_ge j a.length with h | h
    · exact h
    · rw [List.getElem?_eq_none h] at hj; simp at hj
  obtain ⟨ad', e, _, hc⟩ := (hs.bt hb) j hjl
  cases e
  rw [hc]
  rw [List.getElem?_map, List.getElem?_eq_getElem hjl] at hj
  rw [List.getD_eq_getElem?_getD, List.getElem?_eq_getElem hjl]
  exact hj

theorem one_ints (a : List Nat) : ∀ v ∈ a.map (fun d : Nat => Value.int .i64 (d : Int)), v.oneCell' = true := by
  intro v hv
  obtain ⟨x, _, rfl⟩ := List.mem_map.1 hv
  rfl

theorem getD_mem {l : List Int} {k : Nat} (h : k < l.length) : l.getD k 0 ∈ l := by
  rw [List.getD_eq_getElem?_getD, List.getElem?_eq_getElem h]
  exact List.getElem_mem h

theorem add_start {w2 : World} {B N : Nat} {a : List Nat} (h : w2.heap[B]? = some (.cells (((a.map fun d : Nat => (d : Int)) ++ List.replicate (N - a.length) 0).map (Value.int .i64)).toArray 3 (0, 0))) (hN : a.length < N) (hN2 : N ≤ 1000000) (hd : ∀ d ∈ a, d < 1000000) :
    ∃ L : List Int, L.length = N ∧ Na.lz L = (Na.lv a : Int) ∧ (∀ z ∈ L, 0 ≤ z ∧ z ≤ 1000000) ∧ OwnZ w2 B B N L := by
  have hL : ((a.map fun d : Nat => (d : Int)) ++ List.replicate (N - a.length) 0).length = N := by simp; omega
  refine ⟨(a.map fun d : Nat => (d : Int)) ++ List.replicate (N - a.length) 0, hL, ?_, ?_, ?_⟩
  · rw [Na.lz_app, Na.lz_nat, Na.lz_zeros]; simp
  · intro z hz
    rcases List.mem_append.1 hz with h1 | h1
    · obtain ⟨d, hd1, rfl⟩ := List.mem_map.1 h1
      have := hd d hd1
      omega
    · have := (List.mem_replicate.1 h1).2
      omega
  · have := own_of_row h (Nat.le_refl B) (by rw [hL]; unfold maxLen; omega)
    rwa [hL] at this

set_option maxHeartbeats 1000000 in
theorem plus_any (A A' : Option Addr) (a b : List Nat) (c c' : Nat) (w : World) (hs : Ints w w.heap.size A a) (hs' : Ints w w.heap.size A' b) (hl : a.length ≤ 1000) (hl' : b.length ≤ 1000) (hd : ∀ d ∈ a, d < 1000000) (hd' : ∀ d ∈ b, d < 1000000) :
    Calls Tryz.prog 132 #[.slice A a.length c, .slice A' b.length c'] w (GivesN (Na.lv a + Na.lv b) w) := by
  have HS := Lib.hid hs
  have HS' := Lib.hid hs'
  have HD := Lib.hid hd
  have HD' := Lib.hid hd'
  unfold GivesN
  obtain ⟨N, hN⟩ : ∃ N : Nat, N = max a.length b.length + 1 := ⟨_, rfl⟩
  have hN1 : a.length < N := by omega
  have hN2 : b.length < N := by omega
  have hN3 : N ≤ 1001 := by omega
  have HB : Hid (Na.lv a + Na.lv b < 1000000 ^ N) := by
    refine Lib.hid ?_
    have h1 := Na.lv_lt a hd
    have h2 := Na.lv_lt b hd'
    have h3 : 1000000 ^ a.length ≤ 1000000 ^ (N - 1) := Nat.pow_le_pow_right (by omega) (by omega)
    have h4 : 1000000 ^ b.length ≤ 1000000 ^ (N - 1) := Nat.pow_le_pow_right (by omega) (by omega)
    have h5 : 1000000 ^ N = 1000000 ^ (N - 1) * 1000000 := by rw [← Nat.pow_succ]; congr 1; omega
    omega
  have ST := Lib.hid (fun (w2 : World) (B : Nat) h => add_start (w2 := w2) (B := B) (N := N) h hN1 (by omega) hd)
  have hcl : (a.map fun d : Nat => Value.int .i64 (d : Int)).length = a.length := by simp
  have HS1 := Lib.hid (fun w' hb h0 => src_ints (w' := w') hs hb h0)
  have HR := Lib.hid (splice_row a N)
  have H1 := Lib.hid (one_ints a)
  obtain ⟨cs, hcs⟩ : ∃ cs, cs = a.map fun d : Nat => Value.int .i64 (d : Int) := ⟨_, rfl⟩
  rw [← hcs] at hcl HS1 HR H1
  clear hs hs' hd hd' hcs
  obtain ⟨z0, hz0⟩ : ∃ z0, z0 = (List.replicate N (0 : Int)).map (Value.int .i64) := ⟨_, rfl⟩
  have hzl : z0.length = N := by rw [hz0]; simp
  have HZ0 := Lib.hid hz0
  rw [← hz0] at HR
  rw [← HR.out] at ST
  clear hz0
  by_cases hlt : a.length < b.length
  · have HN' := Lib.hid (show N = b.length + 1 by omega)
    clear hN
    go_enter Tryz.func132, Tryz.ntmps132
    go_wp2_with (first
      | (at_make
         refine list_make rfl (.tmp 13) (.tmp 13) 41 rfl rfl N (by omega) (by show Value.int .i64 _ = _; rw [HN'.out]; rfl) (by show Value.int .i64 _ = _; rw [HN'.out]; rfl) ?_
         rw [← HZ0.out]
         intro w1 hh1 hb1
         have HH1 := Lib.hid hh1
         clear hh1
         suffices hsuf : Hid (wpList _ _ _ _ _ _) from hsuf.out)
      | fail)
    refine Lib.hid ?_
    go_wp2_with (first
      | (with_reducible show wpList _ _ _ _ _ _
         refine wpList_copy_splice (o := ⟨some 17, _, _, _, _, _⟩) rfl (.tmp 15) (.tmp 16) 41 118 rfl 3 Tryz.underlying41 infoIs (some ⟨w.heap.size, 0, none⟩) A N N a.length c rfl rfl w.heap.size 0 z0 3 HH1.out cs ?n1b ?n2b ?n3b H1.out w.heap.size w hb1 (Nat.le_refl _) ?n4b
         case n1b => rw [hcl]; exact (Nat.min_eq_left (by omega)).symm
         case n2b => exact fun h0 => ⟨rfl, HS1.out _ hb1 h0⟩
         case n3b => omega
         intro w2 HH2 hb2)
      | fail)
    obtain ⟨L0, HL0⟩ := Lib.hid (ST.out _ _ HH2.out)
    go_loopw [6, 7, 20] (fun _ _ i wr => ∃ (k : Nat) (L : List Int), k ≤ b.length ∧ i = .int .i64 (k : Int) ∧ Hid (L.length = N) ∧ Hid (Na.lz L = ((Na.lv a + Na.lv (b.take k) : Nat) : Int)) ∧ Hid (∀ z ∈ L, 0 ≤ z ∧ z ≤ 1000000 * ((k : Int) + 1)) ∧ Hid (OwnZ wr w.heap.size w.heap.size N L) ∧ Below w.heap.size w wr) (fun _ _ i _ => b.length - (intOf i).toNat)
    case atStart => exact ⟨0, L0, by omega, rfl, Lib.hid HL0.1, Lib.hid (by rw [HL0.2.1]; simp [Na.lv_nil]), Lib.hid (by intro z hz; have := HL0.2.2.1 z hz; omega), Lib.hid HL0.2.2.2, hb2⟩
    case round =>
      clear HL0 HH2 HR HZ0 ST HN' hzl
      obtain ⟨k, L, hk, rfl, HL, HV, HZ, HO, hb⟩ := hrel
      by_cases hlt : k < b.length
      · obtain ⟨ad, rfl, _, hcb⟩ := (HS'.out.bt hb) k hlt
        have hcell := HO.out.cell k (by rw [HL.out]; omega)
        have hfr := HO.out.frozen k
        have hz := HZ.out (L.getD k 0) (getD_mem (by rw [HL.out]; omega))
        have hy := Na.getD_lt HD'.out k hlt
        have FIN := Lib.hid (fun u : Int => And.intro (HO.out.stored k u) (And.intro (HO.out.below hb k u) (Na.lz_set L k u (by rw [HL.out]; omega))))
        have HT := Lib.hid (Na.lv_take b k hlt)
        generalize L.getD k 0 = z at *
        generalize b.getD k 0 = y at *
        clear HS HS' HB
        go_wp2
        have hf := FIN.out (z + (y : Int))
        refine ⟨⟨k + 1, L.set k (z + (y : Int)), by omega, by go_num, Lib.hid (by rw [List.length_set]; exact HL.out), Lib.hid ?_, Lib.hid ?_, Lib.hid hf.1, hf.2.1⟩, by simp [intOf]; omega⟩
        · rw [hf.2.2, HV.out, HT.out, show z + (y : Int) - z = (y : Int) by omega]
          simp only [Int.natCast_add, Int.natCast_mul]
          omega
        · intro x hx
          rcases mem_set' hx with h | h
          · have := HZ.out x h
            omega
          · omega
      · obtain rfl : k = b.length := by omega
        rw [List.take_length] at HV
        have SE := Lib.hid (settled_any w.heap.size w.heap.size N (Na.lv a + Na.lv b) L wr (by exact HO.out) (by rw [HL.out]; omega) (fun z hz => by have := HZ.out z hz; omega) HV.out (by rw [HL.out]; exact HB.out))
        rw [HL.out] at SE
        have hNm : N ≤ maxLen := HO.out.facts.2.2.2
        have HLL := Lib.hid (Na.lim_length.2 HB.out)
        clear HS HS' HO HZ HV
        go_wp2_with fail
        refine SE.out.mono ?_
        rintro e w3 ⟨rfl, hi, hb3⟩
        have HI := Lib.hid hi
        clear hi
        go_wp2_with fail
        go_ret
        exact ⟨_, _, rfl, HI.out, HLL.out, hNm, Below.trans hb hb3⟩
  · have HN' := Lib.hid (show N = a.length + 1 by omega)
    clear hN
    go_enter Tryz.func132, Tryz.ntmps132
    go_wp2_with (first
      | (at_make
         refine list_make rfl (.tmp 13) (.tmp 13) 41 rfl rfl N (by omega) (by show Value.int .i64 _ = _; rw [HN'.out]; rfl) (by show Value.int .i64 _ = _; rw [HN'.out]; rfl) ?_
         rw [← HZ0.out]
         intro w1 hh1 hb1
         have HH1 := Lib.hid hh1
         clear hh1
         suffices hsuf : Hid (wpList _ _ _ _ _ _) from hsuf.out)
      | fail)
    refine Lib.hid ?_
    go_wp2_with (first
      | (with_reducible show wpList _ _ _ _ _ _
         refine wpList_copy_splice (o := ⟨some 17, _, _, _, _, _⟩) rfl (.tmp 15) (.tmp 16) 41 118 rfl 3 Tryz.underlying41 infoIs (some ⟨w.heap.size, 0, none⟩) A N N a.length c rfl rfl w.heap.size 0 z0 3 HH1.out cs ?n1a ?n2a ?n3a H1.out w.heap.size w hb1 (Nat.le_refl _) ?n4a
         case n1a => rw [hcl]; exact (Nat.min_eq_left (by omega)).symm
         case n2a => exact fun h0 => ⟨rfl, HS1.out _ hb1 h0⟩
         case n3a => omega
         intro w2 HH2 hb2)
      | fail)
    obtain ⟨L0, HL0⟩ := Lib.hid (ST.out _ _ HH2.out)
    go_loopw [6, 7, 20] (fun _ _ i wr => ∃ (k : Nat) (L : List Int), k ≤ b.length ∧ i = .int .i64 (k : Int) ∧ Hid (L.length = N) ∧ Hid (Na.lz L = ((Na.lv a + Na.lv (b.take k) : Nat) : Int)) ∧ Hid (∀ z ∈ L, 0 ≤ z ∧ z ≤ 1000000 * ((k : Int) + 1)) ∧ Hid (OwnZ wr w.heap.size w.heap.size N L) ∧ Below w.heap.size w wr) (fun _ _ i _ => b.length - (intOf i).toNat)
    case atStart => exact ⟨0, L0, by omega, rfl, Lib.hid HL0.1, Lib.hid (by rw [HL0.2.1]; simp [Na.lv_nil]), Lib.hid (by intro z hz; have := HL0.2.2.1 z hz; omega), Lib.hid HL0.2.2.2, hb2⟩
    case round =>
      clear HL0 HH2 HR HZ0 ST HN' hzl
      obtain ⟨k, L, hk, rfl, HL, HV, HZ, HO, hb⟩ := hrel
      by_cases hlt : k < b.length
      · obtain ⟨ad, rfl, _, hcb⟩ := (HS'.out.bt hb) k hlt
        have hcell := HO.out.cell k (by rw [HL.out]; omega)
        have hfr := HO.out.frozen k
        have hz := HZ.out (L.getD k 0) (getD_mem (by rw [HL.out]; omega))
        have hy := Na.getD_lt HD'.out k hlt
        have FIN := Lib.hid (fun u : Int => And.intro (HO.out.stored k u) (And.intro (HO.out.below hb k u) (Na.lz_set L k u (by rw [HL.out]; omega))))
        have HT := Lib.hid (Na.lv_take b k hlt)
        generalize L.getD k 0 = z at *
        generalize b.getD k 0 = y at *
        clear HS HS' HB
        go_wp2
        have hf := FIN.out (z + (y : Int))
        refine ⟨⟨k + 1, L.set k (z + (y : Int)), by omega, by go_num, Lib.hid (by rw [List.length_set]; exact HL.out), Lib.hid ?_, Lib.hid ?_, Lib.hid hf.1, hf.2.1⟩, by simp [intOf]; omega⟩
        · rw [hf.2.2, HV.out, HT.out, show z + (y : Int) - z = (y : Int) by omega]
          simp only [Int.natCast_add, Int.natCast_mul]
          omega
        · intro x hx
          rcases mem_set' hx with h | h
          · have := HZ.out x h
            omega
          · omega
      · obtain rfl : k = b.length := by omega
        rw [List.take_length] at HV
        have SE := Lib.hid (settled_any w.heap.size w.heap.size N (Na.lv a + Na.lv b) L wr (by exact HO.out) (by rw [HL.out]; omega) (fun z hz => by have := HZ.out z hz; omega) HV.out (by rw [HL.out]; exact HB.out))
        rw [HL.out] at SE
        have hNm : N ≤ maxLen := HO.out.facts.2.2.2
        have HLL := Lib.hid (Na.lim_length.2 HB.out)
        clear HS HS' HO HZ HV
        go_wp2_with fail
        refine SE.out.mono ?_
        rintro e w3 ⟨rfl, hi, hb3⟩
        have HI := Lib.hid hi
        clear hi
        go_wp2_with fail
        go_ret
        exact ⟨_, _, rfl, HI.out, HLL.out, hNm, Below.trans hb hb3⟩
end Go.Proofs.YtkbncdcphohmiaaGreatDoor

/- Differences of numbers in limbs. -/
set_option linter.unusedSimpArgs false
set_option linter.unusedVariables false
namespace Go.Proofs.YtkbncdcphohmiaaGreatDoor
open Go.RowKit
set_option maxRecDepth 100000

/-- 'append(v, x..)' in a plain region: v the call's own, x whatever. -/
theorem list_appendZ {ops : Array Oper} {rest : List Oper} {o : Oper} {a : Act} {w : World} {Q : Exit → Act → World → Prop} (hgd : o.guard = none) (s x : Operand) (t : TypeId) (ht : Tryz.prog.underlying t = some (.slice 3))
    (ho : o.op = .call { callee := .builtin .append, args := #[s, x], argTypes := #[t, t] }) (B : Nat) (v : Value) (l : List Int) (hs : a.eval s = v) (hown : w.ownsRow B 3 1 v l.length (l.map (Value.int .i64))) (ad : Addr) (m c : Nat) (news : List Int) (hm : news.length = m) (hx : a.eval x = .slice (some ad) m c)
    (hc : ∀ j u, (news.map (Value.int .i64))[j]? = some u → w.cell? (ad.add j) = some u) (hn : 0 < m) (hl : l.length + m ≤ 1000000) (hB : B ≤ w.heap.size)
    (h : ∀ g cap w', OwnZ w' B g cap (l ++ news) → Below B w w' → wpList Tryz.prog ops Q rest (a.put o.dst (.slice (some ⟨g, 0, none⟩) (l.length + m) cap)) w') : wpList Tryz.prog ops Q (o :: rest) a w := by
  obtain ⟨i0, hi, hz0, hz1, hz2⟩ := info_parts infoI
  refine wpList_append_lies w hgd s x t ho B 3 i0 (.int .i64 0) 1 8 ht hi hz0 hz1 hz2 rfl (by decide) v l.length _ hs hown ad m c (news.map (Value.int .i64)) hx (by simpa using hm) hc ?_ hn (by unfold maxLen; omega) (by omega) hB w.heap.size rfl ?_
  · intro u hu
    obtain ⟨x, _, rfl⟩ := List.mem_map.1 hu
    rfl
  intro g cap w' hown' hg hgv _
  refine h g cap w' ?_ ?_
  · unfold OwnZ
    rw [List.length_append, List.map_append, hm]
    exact hown'
  · refine (Below.refl _ _).grown hg hB (fun k hk => ?_)
    rcases hown.2 with ⟨rfl, _⟩ | ⟨g', cap', cur, rfl, h2, _⟩
    · simp [Value.ownBlock] at hk
    · simp [Value.ownBlock] at hk
      subst hk
      exact h2

theorem ints_src {w w' : World} {A : Addr} {a : List Nat} (hs : Ints w w.heap.size (some A) a) (hb : Below w.heap.size w w') :
    ∀ j u, ((a.map fun d : Nat => (d : Int)).map (Value.int .i64))[j]? = some u → w'.cell? (A.add j) = some u := by
  intro j u hj
  have hjl : j < a.length := by
    rcases Nat.lt_or_ge j a.length with h | h
    · exact h
    · rw [List.getElem?_eq_none (by simpa using h)] at hj; simp at hj
  obtain ⟨ad', e, _, hc⟩ := (hs.bt hb) j hjl
  cases e
  rw [hc]
  rw [List.getElem?_map, List.getElem?_map, List.getElem?_eq_getElem hjl] at hj
  rw [List.getD_eq_getElem?_getD, List.getElem?_eq_getElem hjl]
  exact hj

theorem own_none (w : World) (B g : Nat) (h : w.heap[g]? = some (.cells #[] 3 (0, 0))) (hB : B ≤ g) : w.ownsRow B 3 1 (.slice (some ⟨g, 0, none⟩) 0 0) 0 [] :=
  ⟨rfl, .inr ⟨g, 0, _, rfl, hB, h, Nat.le_refl _, by simp [maxLen], by simp, by simp⟩⟩

theorem eqnil (w : World) (a : Option Addr) (n c n' c' : Nat) : (binOp .eql 118 (.slice a n c) (.slice none n' c')).run Tryz.prog w = .ok (.bool a.isNone) w := Lib.run_eql_slice_nil w _ _ a n c n' c' Tryz.underlying118

theorem clone_any (A : Addr) (a : List Nat) (c : Nat) (w : World) (hs : Ints w w.heap.size (some A) a) (hl : a.length ≤ 1000) (h0 : 0 < a.length) :
    Calls Tryz.prog 150 #[.slice (some A) a.length c] w fun e w' => ∃ g cap, e = .returned (.slice (some ⟨g, 0, none⟩) a.length cap) ∧ OwnZ w' w.heap.size g cap (a.map fun d : Nat => (d : Int)) ∧ Below w.heap.size w w' := by
  have HS := Lib.hid (fun w' hb => ints_src (w' := w') hs hb)
  have hcl : (a.map fun d : Nat => (d : Int)).length = a.length := by simp
  generalize (a.map fun d : Nat => (d : Int)) = cs at *
  have q := eqnil
  go_enter Tryz.func150, Tryz.ntmps150
  go_wp2_with (first
    | (at_builtin
       refine list_appendZ rfl (.tmp 5) (.tmp 6) 118 rfl rfl w.heap.size _ [] rfl (own_none _ w.heap.size _ (heap_alloc_new _ _) (Nat.le_refl _)) A a.length c cs hcl rfl (HS.out _ ((Below.refl _ _).alloc (Nat.le_refl _) _)) h0 (by simp; omega) ((Below.refl _ _).alloc (Nat.le_refl _) _).size ?_
       intro g cap w2 ho2 hb2
       have HO := Lib.hid ho2
       have HB := Lib.hid (((Below.refl w.heap.size w).alloc (Nat.le_refl _) (.cells #[] 3)).trans hb2)
       clear ho2 hb2)
    | fail)
  go_ret
  refine ⟨_, _, ?_, HO.out, HB.out⟩
  simp

theorem clone_nil (A : Option Addr) (c : Nat) (w : World) (hc : c ≤ maxLen) :
    Calls Tryz.prog 150 #[.slice A 0 c] w fun e w' => ∃ A' c', e = .returned (.slice A' 0 c') ∧ c' ≤ maxLen ∧ Below w.heap.size w w' := by
  cases A with
  | none =>
    have q := eqnil
    go_enter Tryz.func150, Tryz.ntmps150
    go_wp2
    go_ret
    exact ⟨_, _, rfl, by simp [maxLen], Below.refl _ _⟩
  | some A =>
    have q := eqnil
    go_enter Tryz.func150, Tryz.ntmps150
    go_wp2
    go_ret
    exact ⟨_, _, rfl, by simp [maxLen], (Below.refl _ _).alloc (Nat.le_refl _) _⟩

theorem settled_nil (A : Option Addr) (c : Nat) (w : World) (hc : c ≤ maxLen) :
    Calls Tryz.prog 151 #[.slice A 0 c] w fun e w' => e = .returned (.slice A 0 c) ∧ w = w' := by
  have TR := Lib.hid (trimmed_any A [] c w (fun k hk => absurd hk (by simp)) (by simp) (by simp) hc (by simp))
  rw [Na.lv_nil, Na.lim_zero] at TR
  go_enter Tryz.func151, Tryz.ntmps151
  go_wp2
  go_loop [3, 4, 5, 8] (fun _ _ _ i => i = .int .i64 0) (fun _ _ _ _ => 0)
  case atStart => rfl
  case round =>
    obtain rfl := hrel
    go_wp2_with fail
    refine TR.out.mono ?_
    rintro e w1 ⟨rfl, rfl⟩
    go_wp2_with fail
    go_ret
    exact ⟨rfl, rfl⟩

set_option maxHeartbeats 1000000 in
theorem minus_any (A A' : Option Addr) (m n : Nat) (c c' : Nat) (w : World) (hs : Ints w w.heap.size A (Na.lim m)) (hs' : Ints w w.heap.size A' (Na.lim n)) (hl : (Na.lim m).length ≤ 1000) (hc : c ≤ maxLen) (hmn : n ≤ m) :
    Calls Tryz.prog 113 #[.slice A (Na.lim m).length c, .slice A' (Na.lim n).length c'] w (GivesN (m - n) w) := by
  unfold GivesN
  by_cases h0 : m = 0
  · have hn0 : n = 0 := by omega
    subst h0
    subst hn0
    rw [Na.lim_zero]
    have HC := Lib.hid (clone_nil A c w hc)
    have HS0 := Lib.hid (fun A c w hc => settled_nil A c w hc)
    go_enter Tryz.func113, Tryz.ntmps113
    go_wp2_with fail
    refine HC.out.mono ?_
    rintro e w1 ⟨A1, c1, rfl, hc1, hb1⟩
    go_wp2_with fail
    go_loop [6, 7, 12] (fun _ _ i => i = .int .i64 0) (fun _ _ _ => 0)
    case atStart => rfl
    case round =>
      obtain rfl := hrel
      go_wp2_with fail
      refine (HS0.out A1 c1 w1 hc1).mono ?_
      rintro e w2 ⟨rfl, rfl⟩
      go_wp2_with fail
      go_ret
      exact ⟨A1, c1, rfl, fun k hk => absurd hk (by simp), by simp, hc1, hb1⟩
  · have hla : 0 < (Na.lim m).length := by
      rcases Nat.eq_zero_or_pos (Na.lim m).length with h | h
      · exact absurd (Na.lim_nil.1 (List.eq_nil_of_length_eq_zero h)) h0
      · exact h
    obtain ⟨AA, rfl, _, _⟩ := hs 0 hla
    have hle : (Na.lim n).length ≤ (Na.lim m).length := Na.lim_length.2 (Nat.lt_of_le_of_lt hmn (Na.lim_length.1 (Nat.le_refl _)))
    have HB := Lib.hid (Na.lim_length.1 (Nat.le_refl (Na.lim m).length))
    have HC := Lib.hid (clone_any AA (Na.lim m) c w hs hl hla)
    have HS' := Lib.hid hs'
    have HD := Lib.hid (Na.lim_lt m)
    have HD' := Lib.hid (Na.lim_lt n)
    have HVA := Lib.hid (Na.lv_lim m)
    have HVB := Lib.hid (Na.lv_lim n)
    generalize Na.lim m = a at *
    generalize Na.lim n = b at *
    clear hs hs'
    go_enter Tryz.func113, Tryz.ntmps113
    go_wp2_with fail
    refine HC.out.mono ?_
    rintro e w1 ⟨g, cap, rfl, ho, hb1⟩
    have HO1 := Lib.hid ho
    clear ho
    go_wp2_with fail
    go_loopw [6, 7, 12] (fun _ _ i wr => ∃ (k : Nat) (L : List Int), k ≤ b.length ∧ i = .int .i64 (k : Int) ∧ Hid (L.length = a.length) ∧ Hid (Na.lz L = (m : Int) - ((Na.lv (b.take k) : Nat) : Int)) ∧ Hid (∀ z ∈ L, -(1000000 * (k : Int)) ≤ z ∧ z ≤ 1000000) ∧ Hid (OwnZ wr w.heap.size g cap L) ∧ Below w.heap.size w wr) (fun _ _ i _ => b.length - (intOf i).toNat)
    case atStart =>
      refine ⟨0, a.map fun d : Nat => (d : Int), by omega, rfl, Lib.hid (by simp), Lib.hid ?_, Lib.hid ?_, Lib.hid HO1.out, hb1⟩
      · rw [Na.lz_nat, HVA.out]; simp [Na.lv_nil]
      · intro z hz
        obtain ⟨d, hd1, rfl⟩ := List.mem_map.1 hz
        have := HD.out d hd1
        omega
    case round =>
      clear HO1 HC
      obtain ⟨k, L, hk, rfl, HL, HV, HZ, HO, hb⟩ := hrel
      by_cases hlt : k < b.length
      · obtain ⟨ad, rfl, _, hcb⟩ := (HS'.out.bt hb) k hlt
        have hcell := HO.out.cell k (by rw [HL.out]; omega)
        have hfr := HO.out.frozen k
        have hll := HL.out
        have hz := HZ.out (L.getD k 0) (getD_mem (by rw [HL.out]; omega))
        have hy := Na.getD_lt HD'.out k hlt
        have FIN := Lib.hid (fun u : Int => And.intro (HO.out.stored k u) (And.intro (HO.out.below hb k u) (Na.lz_set L k u (by rw [HL.out]; omega))))
        have HT := Lib.hid (Na.lv_take b k hlt)
        have hka : k < a.length := by omega
        generalize L.getD k 0 = z at *
        generalize b.getD k 0 = y at *
        clear HS' HB hll
        go_wp2
        have hf := FIN.out (z - (y : Int))
        refine ⟨⟨k + 1, L.set k (z - (y : Int)), by omega, by go_num, Lib.hid (by rw [List.length_set]; exact HL.out), Lib.hid ?_, Lib.hid ?_, Lib.hid hf.1, hf.2.1⟩, by simp [intOf]; omega⟩
        · rw [hf.2.2, HV.out, HT.out, show z - (y : Int) - z = -(y : Int) by omega]
          simp only [Int.natCast_add, Int.natCast_mul, Int.mul_neg]
          omega
        · intro x hx
          rcases mem_set' hx with h | h
          · have := HZ.out x h
            omega
          · omega
      · obtain rfl : k = b.length := by omega
        rw [List.take_length, HVB.out] at HV
        have hmn' : n ≤ m := hmn
        have hm : m < 1000000 ^ a.length := by have := HB.out; exact this
        have hout : Na.lz L = ((m - n : Nat) : Int) := by rw [HV.out]; omega
        have SE := Lib.hid (settled_any w.heap.size g cap (m - n) L wr (by exact HO.out) (by rw [HL.out]; omega) (fun z hz => by have := HZ.out z hz; omega) hout (by rw [HL.out]; omega))
        have hcm : cap ≤ maxLen := HO.out.facts.2.2.2
        have hcl : a.length ≤ cap := by have := HO.out.facts.2.2.1; rwa [HL.out] at this
        rw [HL.out] at SE
        have HLL := Lib.hid (Na.lim_length.2 (show m - n < 1000000 ^ a.length by omega))
        clear HS' HO HZ HV hm hout HVA HVB
        go_wp2_with fail
        refine SE.out.mono ?_
        rintro e w3 ⟨rfl, hi, hb3⟩
        have HI := Lib.hid hi
        clear hi
        go_wp2_with fail
        go_ret
        exact ⟨_, _, rfl, HI.out, Nat.le_trans HLL.out hcl, hcm, Below.trans hb hb3⟩
end Go.Proofs.YtkbncdcphohmiaaGreatDoor
