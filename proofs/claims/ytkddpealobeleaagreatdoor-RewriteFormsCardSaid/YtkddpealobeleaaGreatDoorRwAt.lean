/- Layer 10: the statements' letters, and where some letters stand. -/
import Derived.Test.YtkddpealobeleaaGreatDoorRwHG
set_option linter.unusedSimpArgs false
set_option linter.unusedVariables false
namespace Go.Proofs.YtkddpealobeleaaGreatDoor
open Go.RowKit Go.Shelf
set_option maxRecDepth 100000
set_option maxHeartbeats 4000000
/-- The letters of the folded word; none if it is no word. -/
def Rw.lw (k : Int) (x : ByteArray) : List ByteArray := if Nm.isW (Nm.sc k) x.data.toList = true then (Rw.lts k x).map Nm.bt else []
theorem Rw.lw_len (k : Int) (x : ByteArray) : (Rw.lw k x).length ≤ 12 ∧ ((Rw.lw k x).length = 0 ↔ Nm.isW (Nm.sc k) x.data.toList = false) := by
  unfold Rw.lw
  cases h : Nm.isW (Nm.sc k) x.data.toList with
  | false => simp
  | true =>
    have := Rw.isW_lts h
    simp only [if_true, List.length_map]
    exact ⟨this.2, fun h => by omega, fun h => by cases h⟩
theorem Rw.letters_any (k : Int) (x : ByteArray) (w : World) (hm : x.size ≤ maxLen) (hT : Nm.Tb w.heap.size w) :
    Calls Tryz.prog 29 #[.int .i64 k, .string x] w fun e w' => ∃ (A : Option Addr) (c n : Nat), e = .returned (.slice A n c) ∧ (Rw.lw k x).length = n ∧ n ≤ 12 ∧ Strs w' w'.heap.size A (Rw.lw k x) ∧ Below w.heap.size w w' := by
  have hl := Rw.lw_len k x
  cases hw : Nm.isW (Nm.sc k) x.data.toList with
  | false =>
    have h0 : Rw.lw k x = [] := List.eq_nil_of_length_eq_zero (hl.2.2 hw)
    rw [h0]
    have F1 := Lib.hid (Nm.fold_bad k x w hw hm hT)
    clear hw hm hT hl h0
    go_enter Tryz.func29, Tryz.ntmps29
    go_wp2_with fail
    refine F1.out.mono ?_
    rintro e w1 ⟨rfl, g1⟩
    go_wp2
    go_ret
    exact ⟨none, 0, 0, rfl, rfl, by omega, fun k hk => absurd hk (by simp), g1⟩
  | true =>
    have F1 : Hid (Calls Tryz.prog 32 #[.int .i64 k, .string x] w fun e w' => e = .returned (.tuple #[.string (Rw.fd x), .int .i64 0]) ∧ Below w.heap.size w w') := Lib.hid (Nm.fold_ok k x w hw hm hT)
    have hfw : Nm.isW (Nm.sc k) (Rw.fd x).data.toList = true := by unfold Rw.fd; rw [Nm.bt_list]; exact (Nm.fold_word hw).1
    have hlw : Rw.lw k x = (Nm.ls (Nm.sc k) (Rw.fd x).data.toList).map Nm.bt := by unfold Rw.lw Rw.lts Rw.fd; rw [if_pos hw, Nm.bt_list]
    have hsz : (Rw.fd x).size ≤ maxLen := by rw [Rw.fd_size (k := k)]; exact hm
    have L1 := Lib.hid (fun v (g : Below w.heap.size w v) => Nm.letters_ok k (Rw.fd x) v hfw hsz (hT.bt g))
    rw [← hlw] at L1
    generalize Rw.lw k x = l at *
    generalize Rw.fd x = y at *
    have HL := Lib.hid hl.1
    clear hw hm hT hl hfw hlw hsz
    go_enter Tryz.func29, Tryz.ntmps29
    go_wp2_with fail
    refine F1.out.mono ?_
    rintro e w1 ⟨rfl, g1⟩
    have HB := Lib.hid g1
    clear g1
    go_wp2_with fail
    refine (L1.out w1 HB.out).mono ?_
    rintro e w2 ⟨v, rfl, o2, g2⟩
    obtain ⟨A, c, rfl, s2, _, _⟩ := o2.form
    have HS := Lib.hid s2
    have HB2 := Lib.hid (Nm.Nb HB.out g2)
    obtain ⟨n, hn⟩ : ∃ n, l.length = n := ⟨_, rfl⟩
    rw [hn]
    have HN := Lib.hid (And.intro hn (hn ▸ HL.out))
    clear o2 s2 g2 hn
    go_wp2
    go_ret
    exact ⟨A, c, n, rfl, HN.out.1, HN.out.2, HS.out, HB2.out⟩
/-- Do some letters stand at a place? -/
def Rw.atB (l : List ByteArray) (i : Nat) (f : List ByteArray) : Bool := decide (i + f.length ≤ l.length ∧ (l.drop i).take f.length = f)
theorem Rw.atB_iff {L M : List Nm.T} {i : Nat} : Rw.atB (L.map Nm.bt) i (M.map Nm.bt) = true ↔ (i + M.length ≤ L.length ∧ (L.drop i).take M.length = M) := by
  unfold Rw.atB
  rw [decide_eq_true_eq, List.length_map, List.length_map, ← List.map_drop, ← List.map_take, Rw.bt_inj]
theorem Rw.at_any (A : Option Addr) (c : Nat) (l : List ByteArray) (n i : Nat) (B : Option Addr) (d : Nat) (f : List ByteArray) (m : Nat) (hn : l.length = n) (hm : f.length = m) (w : World) (ha : Strs w w.heap.size A l) (hb : Strs w w.heap.size B f) (hn1 : n ≤ 1000) (hm1 : m ≤ 1000) (hi : i ≤ 1000) :
    Calls Tryz.prog 34 #[.slice A n c, .int .i64 (i : Int), .slice B m d] w fun e w' => e = .returned (.bool (Rw.atB l i f)) ∧ Below w.heap.size w w' := by
  have hi0 : ¬ (i : Int) < 0 := by omega
  by_cases hle : i + m ≤ n
  · have hle1 : ¬ (n : Int) < (i : Int) + (m : Int) := by omega
    have HA := Lib.hid ha
    have HB := Lib.hid hb
    have HN := Lib.hid (And.intro hn hm)
    clear ha hb hn hm
    go_enter Tryz.func34, Tryz.ntmps34
    go_wp2
    go_loopw [7] (fun s7 wr => ∃ k : Nat, k ≤ m ∧ s7 = .int .i64 (k : Int) ∧ Hid ((l.drop i).take k = f.take k) ∧ Hid (Below w.heap.size w wr)) (fun s7 _ => m - (intOf s7).toNat)
    case atStart => exact ⟨0, by omega, rfl, Lib.hid rfl, Lib.hid (Below.refl _ _)⟩
    case round =>
      obtain ⟨k, hk, rfl, HE, HW⟩ := hrel
      by_cases hlt : k < m
      · have hk1 : i + k < l.length := by have := HN.out.1; omega
        have hk2 : k < f.length := by have := HN.out.2; omega
        obtain ⟨ad, rfl, had, hx⟩ := (Nm.sbt HA.out HW.out) (i + k) hk1
        obtain ⟨bd, rfl, hbd, hy⟩ := (Nm.sbt HB.out HW.out) k hk2
        have ht1 : (l.drop i).take (k + 1) = (l.drop i).take k ++ [l.getD (i + k) ByteArray.empty] := by
          rw [List.take_add_one, List.getElem?_drop, List.getElem?_eq_getElem hk1, List.getD_eq_getElem?_getD, List.getElem?_eq_getElem hk1]
          rfl
        have ht2 := Rw.getD_takeS hk2
        obtain ⟨x, hxx⟩ : ∃ x, l.getD (i + k) ByteArray.empty = x := ⟨_, rfl⟩
        obtain ⟨y, hyy⟩ : ∃ y, f.getD k ByteArray.empty = y := ⟨_, rfl⟩
        rw [hxx] at hx ht1
        rw [hyy] at hy ht2
        have HT := Lib.hid (And.intro ht1 ht2)
        have hik : (i : Int) + (k : Int) < (n : Int) := by omega
        clear ht1 ht2 hxx hyy hk1 hk2
        by_cases hxy : x = y
        · subst hxy
          go_wp2
          go_quiet (fail)
          go_wp2
          exact ⟨⟨k + 1, by omega, by go_num, Lib.hid (by rw [HT.out.1, HT.out.2, HE.out]), Lib.hid (Nm.drewB HW.out _)⟩, by simp [intOf]; omega⟩
        · have hne := Rw.bytes_ne hxy
          have HF : Hid (Rw.atB l i f = false) := Lib.hid (decide_eq_false (fun e => by
            have h1 := HT.out.1
            have h2 := HT.out.2
            have h3 : (l.drop i).take (k + 1) = f.take (k + 1) := by
              have := congrArg (List.take (k + 1)) e.2
              rwa [List.take_take, Nat.min_eq_left (by have := HN.out.2; omega)] at this
            rw [h1, h2, HE.out] at h3
            exact hxy (by simpa using h3)))
          have hxy2 : ¬ x = y := hxy
          go_wp2
          go_quiet (fail)
          go_wp2
          go_ret
          exact ⟨congrArg (fun z => Ending.returned (.bool z)) HF.out.symm, Nm.drewB HW.out _⟩
      · obtain rfl : k = m := by omega
        have HF : Hid (Rw.atB l i f = true) := Lib.hid (decide_eq_true (by
          have h1 := HE.out
          obtain ⟨l1, l2⟩ := HN.out
          rw [List.take_of_length_le (l := f) (by omega)] at h1
          exact ⟨by omega, by rw [l2]; exact h1⟩))
        go_wp2
        go_ret
        exact ⟨congrArg (fun z => Ending.returned (.bool z)) HF.out.symm, HW.out⟩
  · have hF : Rw.atB l i f = false := decide_eq_false (fun e => hle (by rw [← hn, ← hm]; exact e.1))
    rw [hF]
    have hle1 : (n : Int) < (i : Int) + (m : Int) := by omega
    clear ha hb hn hm hF hle
    go_enter Tryz.func34, Tryz.ntmps34
    go_wp2
    go_ret
    exact ⟨rfl, Below.refl _ _⟩
end Go.Proofs.YtkddpealobeleaaGreatDoor
