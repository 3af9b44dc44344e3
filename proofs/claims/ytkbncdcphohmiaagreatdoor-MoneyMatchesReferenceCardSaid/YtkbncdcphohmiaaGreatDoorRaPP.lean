import Derived.Test.YtkbncdcphohmiaaGreatDoorRaAF
/- Package ratio: texts: a leading minus sign is cut; Text; Parse. -/
set_option linter.unusedSimpArgs false
set_option linter.unusedVariables false
namespace Go.Proofs.YtkbncdcphohmiaaGreatDoor
open Go.RowKit
open Ra (Fit)
set_option maxRecDepth 100000

def hp (s : ByteArray) : Bool := decide (1 ≤ s.size) && ((s.extract 0 1).toList == [45])

theorem hasp_any (s : ByteArray) (w : World) (hs : s.size ≤ maxLen) :
    Calls Tryz.prog 134 #[.string s, .string ⟨#[45]⟩] w fun e w' => e = .returned (.bool (hp s)) ∧ w = w' := by
  unfold maxLen at hs
  unfold hp
  by_cases h : 1 ≤ s.size
  · rw [decide_eq_true h, Bool.true_and]
    have h1 : (1 : Int) ≤ s.size := by omega
    have h2 : ¬ (s.size : Int) < 1 := by omega
    go_enter Tryz.func134, Tryz.ntmps134
    go_wp2_with fail
    go_ret
    exact ⟨rfl, rfl⟩
  · rw [decide_eq_false h, Bool.false_and]
    have h1 : ¬ (1 : Int) ≤ s.size := by omega
    have h2 : (s.size : Int) < 1 := by omega
    go_enter Tryz.func134, Tryz.ntmps134
    go_wp2_with fail
    go_ret
    exact ⟨rfl, rfl⟩

def cutM (s : ByteArray) : ByteArray × Bool := if hp s then (s.extract 1 s.size, true) else (s, false)

theorem cutp_any (s : ByteArray) (w : World) (hs : s.size ≤ maxLen) :
    Calls Tryz.prog 101 #[.string s, .string ⟨#[45]⟩] w fun e w' => e = .returned (.tuple #[.string (cutM s).1, .bool (cutM s).2]) ∧ w = w' := by
  have HP := Lib.hid (hasp_any s w hs)
  unfold cutM
  cases h : hp s
  · rw [h] at HP
    rw [if_neg (by simp)]
    go_enter Tryz.func101, Tryz.ntmps101
    go_wp2_with fail
    refine HP.out.mono ?_
    rintro e w1 ⟨rfl, rfl⟩
    go_wp2_with fail
    go_ret2
    exact ⟨rfl, rfl⟩
  · rw [h] at HP
    rw [if_pos rfl]
    have h1 : (1 : Int) ≤ s.size := by
      unfold hp at h
      rw [Bool.and_eq_true, decide_eq_true_eq] at h
      omega
    have h2 : (s.size : Int) ≤ 9223372036854775807 := by unfold maxLen at hs; omega
    go_enter Tryz.func101, Tryz.ntmps101
    go_wp2_with fail
    refine HP.out.mono ?_
    rintro e w1 ⟨rfl, rfl⟩
    go_wp2_with fail
    go_ret2
    exact ⟨rfl, rfl⟩

theorem cutpre_any (s : ByteArray) (w : World) (hs : s.size ≤ maxLen) :
    Calls Tryz.prog 70 #[.string s, .string ⟨#[45]⟩] w fun e w' => e = .returned (.tuple #[.string (cutM s).1, .bool (cutM s).2]) ∧ w = w' := by
  have HP := Lib.hid (cutp_any s w hs)
  go_enter Tryz.func70, Tryz.ntmps70
  go_wp2_with fail
  refine HP.out.mono ?_
  rintro e w1 ⟨rfl, rfl⟩
  go_wp2_with fail
  go_ret2
  exact ⟨rfl, rfl⟩

/- The text of three parts. -/
def tR (r : R3) : ByteArray := (if r.1 then (⟨#[45]⟩ : ByteArray) else ⟨#[]⟩) ++ r.2.1 ++ (if r.2.2 = ⟨#[49]⟩ then ⟨#[]⟩ else (⟨#[47]⟩ : ByteArray) ++ r.2.2)
def textF (r : R3) : ByteArray × Int := if vR r then (tR r, 0) else (nil', 1)






theorem ne49 {b : ByteArray} (h : b ≠ ⟨#[49]⟩) : (b.toList == [49]) = false := by
  have := bytes_ne h
  rwa [show (⟨#[49]⟩ : ByteArray).toList = [49] by rw [ByteArray.toList_eq]] at this
theorem nil_app (x : ByteArray) : (⟨#[]⟩ : ByteArray) ++ x = x := by
  apply ByteArray.ext
  rw [ByteArray.data_append]
  simp
theorem app_nil (x : ByteArray) : x ++ (⟨#[]⟩ : ByteArray) = x := by
  apply ByteArray.ext
  rw [ByteArray.data_append]
  simp
end Go.Proofs.YtkbncdcphohmiaaGreatDoor

/- Package ratio: Parse. -/
set_option linter.unusedSimpArgs false
set_option linter.unusedVariables false
namespace Go.Proofs.YtkbncdcphohmiaaGreatDoor
open Go.RowKit
open Ra (Fit)
set_option maxRecDepth 100000

/- The variable MaxLen of the library, whatever it holds. -/
def Mx (B : Nat) (w : World) : Prop := (∃ m : Int, w.cell? ⟨2, 0, none⟩ = some (.int .i64 m)) ∧ 2 < B
theorem Mx.bt {w w' : World} (h : Mx w.heap.size w) (hb : Below w.heap.size w w') : Mx w'.heap.size w' := by
  obtain ⟨⟨m, h1⟩, h2⟩ := h
  exact ⟨⟨m, (hb.cell (p := ⟨2, 0, none⟩) h2).trans h1⟩, Nat.lt_of_lt_of_le h2 hb.size⟩
def Px (B : Nat) (w : World) : Prop := Pw B w ∧ Mx B w
theorem Px.bt {w w' : World} (h : Px w.heap.size w) (hb : Below w.heap.size w w') : Px w'.heap.size w' := ⟨h.1.bt hb, h.2.bt hb⟩

def cutS (s : ByteArray) : ByteArray × ByteArray × Bool := (⟨(Lib.cut s.data.toList [47]).1.toArray⟩, ⟨(Lib.cut s.data.toList [47]).2.1.toArray⟩, (Lib.cut s.data.toList [47]).2.2)
theorem cut_any (s : ByteArray) (w : World) (hs : s.size ≤ 100000) (hm : Mx w.heap.size w) :
    Calls Tryz.prog 46 #[.string s, .string ⟨#[47]⟩] w fun e w' => e = .returned (.tuple #[.string (cutS s).1, .string (cutS s).2.1, .bool (cutS s).2.2]) ∧ Below w.heap.size w w' := by
  obtain ⟨⟨m, h1⟩, h2⟩ := hm
  refine (Tryz.strings_Cut s ⟨#[47]⟩ m w (by omega) h1).mono ?_
  rintro e w' ⟨rfl, k, rfl⟩
  exact ⟨rfl, drewN_below w k⟩
/- The first stroke of a text. -/
def cutAt : List UInt8 → List UInt8 × List UInt8 × Bool
  | [] => ([], [], false)
  | c :: l => if c = 47 then ([], l, true) else (c :: (cutAt l).1, (cutAt l).2.1, (cutAt l).2.2)
theorem cutAt_index : ∀ l : List UInt8, (Lib.index l [47] = -1 ∧ cutAt l = (l, [], false)) ∨ ∃ i : Nat, Lib.index l [47] = (i : Int) ∧ cutAt l = (l.take i, l.drop (i + 1), true)
  | [] => .inl ⟨rfl, rfl⟩
  | c :: l => by
    unfold Lib.index cutAt
    by_cases hc : c = 47
    · subst hc
      exact .inr ⟨0, rfl, rfl⟩
    · have h1 : ([47] : List UInt8).isPrefixOf (c :: l) = false := by
        simp [List.isPrefixOf, Ne.symm hc]
      rw [h1, if_neg hc]
      rcases cutAt_index l with ⟨h2, h3⟩ | ⟨i, h2, h3⟩
      · left
        rw [h2, h3]
        exact ⟨rfl, rfl⟩
      · right
        refine ⟨i + 1, ?_, ?_⟩
        · rw [h2]
          have : ((i : Int) == -1) = false := by simp
          rw [this]
          simp
        · rw [h3]
          rfl
theorem cut_at (l : List UInt8) : Lib.cut l [47] = cutAt l := by
  unfold Lib.cut
  rcases cutAt_index l with ⟨h2, h3⟩ | ⟨i, h2, h3⟩
  · rw [h2, h3]
    rfl
  · rw [h2, h3, if_pos (by omega)]
    rfl
theorem cutAt_len : ∀ l : List UInt8, (cutAt l).1.length ≤ l.length ∧ (cutAt l).2.1.length ≤ l.length
  | [] => ⟨Nat.le_refl _, Nat.le_refl _⟩
  | c :: l => by
    have := cutAt_len l
    unfold cutAt
    split
    · exact ⟨Nat.zero_le _, by simp⟩
    · simp only [List.length_cons]
      omega
theorem cutS_len (s : ByteArray) : (cutS s).1.size ≤ s.size ∧ (cutS s).2.1.size ≤ s.size := by
  have := cutAt_len s.data.toList
  rw [Array.length_toList] at this
  unfold cutS
  rw [cut_at]
  dsimp only
  rw [bsizeN, bsizeN]
  exact this
def spl (t : ByteArray) : R3 := ((cutM t).2, (cutS (cutM t).1).1, if (cutS (cutM t).1).2.2 then (cutS (cutM t).1).2.1 else ⟨#[49]⟩)
def parseF (t : ByteArray) : R3 × Int := if (vR (spl t) && decide (tR (spl t) = t)) = true then (spl t, 0) else (zeroR, 5)







end Go.Proofs.YtkbncdcphohmiaaGreatDoor

