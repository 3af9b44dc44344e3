/- Package ratio: Parse. -/
import Derived.Test.YtmnnaaifebajnaaGreatDoorRaP
set_option linter.unusedSimpArgs false
set_option linter.unusedVariables false
namespace Go.Proofs.YtmnnaaifebajnaaGreatDoor
open Go.RowKit
open Ra (Fit)
set_option maxRecDepth 100000

/- The variable MaxLen of the library, whatever it holds. -/
def Mx (B : Nat) (w : World) : Prop := (∃ m : Int, w.cell? ⟨1, 0, none⟩ = some (.int .i64 m)) ∧ 1 < B
theorem Mx.bt {w w' : World} (h : Mx w.heap.size w) (hb : Below w.heap.size w w') : Mx w'.heap.size w' := by
  obtain ⟨⟨m, h1⟩, h2⟩ := h
  exact ⟨⟨m, (hb.cell (p := ⟨1, 0, none⟩) h2).trans h1⟩, Nat.lt_of_lt_of_le h2 hb.size⟩
def Px (B : Nat) (w : World) : Prop := Pw B w ∧ Mx B w
theorem Px.bt {w w' : World} (h : Px w.heap.size w) (hb : Below w.heap.size w w') : Px w'.heap.size w' := ⟨h.1.bt hb, h.2.bt hb⟩

def cutS (s : ByteArray) : ByteArray × ByteArray × Bool := (⟨(Lib.cut s.data.toList [47]).1.toArray⟩, ⟨(Lib.cut s.data.toList [47]).2.1.toArray⟩, (Lib.cut s.data.toList [47]).2.2)
theorem cut_any (s : ByteArray) (w : World) (hs : s.size ≤ 100000) (hm : Mx w.heap.size w) :
    Calls Tryz.prog 61 #[.string s, .string ⟨#[47]⟩] w fun e w' => e = .returned (.tuple #[.string (cutS s).1, .string (cutS s).2.1, .bool (cutS s).2.2]) ∧ Below w.heap.size w w' := by
  obtain ⟨⟨m, h1⟩, h2⟩ := hm
  refine (Tryz.strings_Cut s ⟨#[47]⟩ m w (by omega) h1).mono ?_
  rintro e w' ⟨rfl, k, rfl⟩
  exact ⟨rfl, drewN_below w k⟩
/- The first stroke of a text. -/
def cutAt : List UInt8 → List UInt8 × List UInt8 × Bool
  | [] => ([], [], false)
  | c :: l => if c = 47 then ([], l, true) else (c :: (cutAt l).1, (cutAt l).2.1, (cutAt l).2.2)
theorem cutAt_index : ∀ l : List UInt8, (Lib.index l [47] = -1 ∧ cutAt l = (l, [], false)) ∨ ∃ i : Nat, Lib.index l [47] = (i : Int) ∧ cutAt l = (l.take i, l.drop (i + 1), true)
  | [] => .inl ⟨rfl, rfl⟩
  | c :: l => by
    unfold Lib.index cutAt
    by_cases hc : c = 47
    · subst hc
      exact .inr ⟨0, rfl, rfl⟩
    · have h1 : ([47] : List UInt8).isPrefixOf (c :: l) = false := by
        simp [List.isPrefixOf, Ne.symm hc]
      rw [h1, if_neg hc]
      rcases cutAt_index l with ⟨h2, h3⟩ | ⟨i, h2, h3⟩
      · left
        rw [h2, h3]
        exact ⟨rfl, rfl⟩
      · right
        refine ⟨i + 1, ?_, ?_⟩
        · rw [h2]
          have : ((i : Int) == -1) = false := by simp
          rw [this]
          simp
        · rw [h3]
          rfl
theorem cut_at (l : List UInt8) : Lib.cut l [47] = cutAt l := by
  unfold Lib.cut
  rcases cutAt_index l with ⟨h2, h3⟩ | ⟨i, h2, h3⟩
  · rw [h2, h3]
    rfl
  · rw [h2, h3, if_pos (by omega)]
    rfl
theorem cutAt_len : ∀ l : List UInt8, (cutAt l).1.length ≤ l.length ∧ (cutAt l).2.1.length ≤ l.length
  | [] => ⟨Nat.le_refl _, Nat.le_refl _⟩
  | c :: l => by
    have := cutAt_len l
    unfold cutAt
    split
    · exact ⟨Nat.zero_le _, by simp⟩
    · simp only [List.length_cons]
      omega
theorem cutS_len (s : ByteArray) : (cutS s).1.size ≤ s.size ∧ (cutS s).2.1.size ≤ s.size := by
  have := cutAt_len s.data.toList
  rw [Array.length_toList] at this
  unfold cutS
  rw [cut_at]
  dsimp only
  rw [bsizeN, bsizeN]
  exact this
def spl (t : ByteArray) : R3 := ((cutM t).2, (cutS (cutM t).1).1, if (cutS (cutM t).1).2.2 then (cutS (cutM t).1).2.1 else ⟨#[49]⟩)
def parseF (t : ByteArray) : R3 × Int := if (vR (spl t) && decide (tR (spl t) = t)) = true then (spl t, 0) else (zeroR, 5)

set_option maxHeartbeats 1000000 in
theorem parse_00 (text u n d0 : ByteArray) (neg : Bool) (own : ByteArray) (e0 : Int) (he : e0 ≠ 0) (w : World)
    (C1 : Hid (∀ v, Calls Tryz.prog 36 #[.string text, .string ⟨#[45]⟩] v fun e w' => e = .returned (.tuple #[.string u, .bool neg]) ∧ v = w'))
    (C2 : Hid (∀ v, Below w.heap.size w v → Calls Tryz.prog 61 #[.string u, .string ⟨#[47]⟩] v fun e w' => e = .returned (.tuple #[.string n, .string d0, .bool false]) ∧ Below v.heap.size v w'))
    (T : Hid (∀ v, Below w.heap.size w v → Calls Tryz.prog 30 #[rV (neg, n, ⟨#[49]⟩)] v fun e w' => e = .returned (.tuple #[.string own, .int .i64 e0]) ∧ Below v.heap.size v w')) :
    Calls Tryz.prog 32 #[.string text] w fun e w' => e = .returned (.tuple #[rV zeroR, .int .i64 5]) ∧ Below w.heap.size w w' := by
  have he2 := (nez he).1
  have hb1 := al w (.cells #[.bool false, .string ⟨#[]⟩, .string ⟨#[]⟩] 23)
  have R1 := At.new w false ⟨#[]⟩ ⟨#[]⟩
  unfold rV at T ⊢
  unfold zeroR nil'
  simp only at T ⊢
  go_enter Tryz.func32, Tryz.ntmps32
  go_wp2_with fail
  refine (C1.out _).mono ?_
  rintro e w1 ⟨rfl, rfl⟩
  go_wp2_with fail
  refine (C2.out _ hb1).mono ?_
  rintro e w2 ⟨rfl, h2⟩
  have hb2 := Nb hb1 h2
  have R2 := R1.bt h2
  have hl : w.heap.size < w2.heap.size := (Array.getElem?_eq_some_iff.1 R2).1
  have hb3 := Nb hb2 (al w2 (.cells #[.bool neg, .string n, .string ⟨#[49]⟩] 23))
  have X3 := At.new w2 neg n ⟨#[49]⟩
  have R3 := R2.bt (al w2 (.cells #[.bool neg, .string n, .string ⟨#[49]⟩] 23))
  clear hb1 R1 R2 hb2 h2
  obtain ⟨x0, x1, x2, _, _, _⟩ := X3.cells
  go_wp2_with fail
  refine (T.out _ hb3).mono ?_
  rintro e w4 ⟨rfl, h4⟩
  have hb4 := Nb hb3 h4
  have X4 := X3.bt h4
  have R4 := R3.bt h4
  clear x0 x1 x2 X3 R3 hb3
  obtain ⟨x0, x1, x2, _, _, _⟩ := X4.cells
  obtain ⟨r0, r1, r2, f0, f1, f2⟩ := R4.cells
  go_wp2_with fail
  exact bodyPost_ret (out2 Tryz.results32 _ _ _ _ _ rfl rfl (R4.set _ _ _)) rfl ⟨rfl, Bset2 hb4 (by omega) _ _ _⟩

set_option maxHeartbeats 1000000 in
theorem parse_01 (text u n d0 : ByteArray) (neg : Bool) (own : ByteArray) (ho : (own.toList == text.toList) = false) (w : World)
    (C1 : Hid (∀ v, Calls Tryz.prog 36 #[.string text, .string ⟨#[45]⟩] v fun e w' => e = .returned (.tuple #[.string u, .bool neg]) ∧ v = w'))
    (C2 : Hid (∀ v, Below w.heap.size w v → Calls Tryz.prog 61 #[.string u, .string ⟨#[47]⟩] v fun e w' => e = .returned (.tuple #[.string n, .string d0, .bool false]) ∧ Below v.heap.size v w'))
    (T : Hid (∀ v, Below w.heap.size w v → Calls Tryz.prog 30 #[rV (neg, n, ⟨#[49]⟩)] v fun e w' => e = .returned (.tuple #[.string own, .int .i64 0]) ∧ Below v.heap.size v w')) :
    Calls Tryz.prog 32 #[.string text] w fun e w' => e = .returned (.tuple #[rV zeroR, .int .i64 5]) ∧ Below w.heap.size w w' := by
  have hb1 := al w (.cells #[.bool false, .string ⟨#[]⟩, .string ⟨#[]⟩] 23)
  have R1 := At.new w false ⟨#[]⟩ ⟨#[]⟩
  unfold rV at T ⊢
  unfold zeroR nil'
  simp only at T ⊢
  go_enter Tryz.func32, Tryz.ntmps32
  go_wp2_with fail
  refine (C1.out _).mono ?_
  rintro e w1 ⟨rfl, rfl⟩
  go_wp2_with fail
  refine (C2.out _ hb1).mono ?_
  rintro e w2 ⟨rfl, h2⟩
  have hb2 := Nb hb1 h2
  have R2 := R1.bt h2
  have hl : w.heap.size < w2.heap.size := (Array.getElem?_eq_some_iff.1 R2).1
  have hb3 := Nb hb2 (al w2 (.cells #[.bool neg, .string n, .string ⟨#[49]⟩] 23))
  have X3 := At.new w2 neg n ⟨#[49]⟩
  have R3 := R2.bt (al w2 (.cells #[.bool neg, .string n, .string ⟨#[49]⟩] 23))
  clear hb1 R1 R2 hb2 h2
  obtain ⟨x0, x1, x2, _, _, _⟩ := X3.cells
  go_wp2_with fail
  refine (T.out _ hb3).mono ?_
  rintro e w4 ⟨rfl, h4⟩
  have hb4 := Nb hb3 h4
  have X4 := X3.bt h4
  have R4 := R3.bt h4
  clear x0 x1 x2 X3 R3 hb3
  obtain ⟨x0, x1, x2, _, _, _⟩ := X4.cells
  obtain ⟨r0, r1, r2, f0, f1, f2⟩ := R4.cells
  go_wp2_with fail
  exact bodyPost_ret (out2 Tryz.results32 _ _ _ _ _ rfl rfl (R4.set _ _ _)) rfl ⟨rfl, Bset2 hb4 (by omega) _ _ _⟩

set_option maxHeartbeats 1000000 in
theorem parse_02 (text u n d0 : ByteArray) (neg : Bool) (w : World)
    (C1 : Hid (∀ v, Calls Tryz.prog 36 #[.string text, .string ⟨#[45]⟩] v fun e w' => e = .returned (.tuple #[.string u, .bool neg]) ∧ v = w'))
    (C2 : Hid (∀ v, Below w.heap.size w v → Calls Tryz.prog 61 #[.string u, .string ⟨#[47]⟩] v fun e w' => e = .returned (.tuple #[.string n, .string d0, .bool false]) ∧ Below v.heap.size v w'))
    (T : Hid (∀ v, Below w.heap.size w v → Calls Tryz.prog 30 #[rV (neg, n, ⟨#[49]⟩)] v fun e w' => e = .returned (.tuple #[.string text, .int .i64 0]) ∧ Below v.heap.size v w')) :
    Calls Tryz.prog 32 #[.string text] w fun e w' => e = .returned (.tuple #[rV (neg, n, ⟨#[49]⟩), .int .i64 0]) ∧ Below w.heap.size w w' := by
  have hb1 := al w (.cells #[.bool false, .string ⟨#[]⟩, .string ⟨#[]⟩] 23)
  have R1 := At.new w false ⟨#[]⟩ ⟨#[]⟩
  unfold rV at T ⊢
  skip
  simp only at T ⊢
  go_enter Tryz.func32, Tryz.ntmps32
  go_wp2_with fail
  refine (C1.out _).mono ?_
  rintro e w1 ⟨rfl, rfl⟩
  go_wp2_with fail
  refine (C2.out _ hb1).mono ?_
  rintro e w2 ⟨rfl, h2⟩
  have hb2 := Nb hb1 h2
  have R2 := R1.bt h2
  have hl : w.heap.size < w2.heap.size := (Array.getElem?_eq_some_iff.1 R2).1
  have hb3 := Nb hb2 (al w2 (.cells #[.bool neg, .string n, .string ⟨#[49]⟩] 23))
  have X3 := At.new w2 neg n ⟨#[49]⟩
  have R3 := R2.bt (al w2 (.cells #[.bool neg, .string n, .string ⟨#[49]⟩] 23))
  clear hb1 R1 R2 hb2 h2
  obtain ⟨x0, x1, x2, _, _, _⟩ := X3.cells
  go_wp2_with fail
  refine (T.out _ hb3).mono ?_
  rintro e w4 ⟨rfl, h4⟩
  have hb4 := Nb hb3 h4
  have X4 := X3.bt h4
  have R4 := R3.bt h4
  clear x0 x1 x2 X3 R3 hb3
  obtain ⟨x0, x1, x2, _, _, _⟩ := X4.cells
  obtain ⟨r0, r1, r2, f0, f1, f2⟩ := R4.cells
  go_wp2_with fail
  exact bodyPost_ret (out2 Tryz.results32 _ _ _ _ _ rfl rfl (R4.set _ _ _)) rfl ⟨rfl, Bset2 hb4 (by omega) _ _ _⟩

set_option maxHeartbeats 1000000 in
theorem parse_10 (text u n d0 : ByteArray) (neg : Bool) (own : ByteArray) (e0 : Int) (he : e0 ≠ 0) (w : World)
    (C1 : Hid (∀ v, Calls Tryz.prog 36 #[.string text, .string ⟨#[45]⟩] v fun e w' => e = .returned (.tuple #[.string u, .bool neg]) ∧ v = w'))
    (C2 : Hid (∀ v, Below w.heap.size w v → Calls Tryz.prog 61 #[.string u, .string ⟨#[47]⟩] v fun e w' => e = .returned (.tuple #[.string n, .string d0, .bool true]) ∧ Below v.heap.size v w'))
    (T : Hid (∀ v, Below w.heap.size w v → Calls Tryz.prog 30 #[rV (neg, n, d0)] v fun e w' => e = .returned (.tuple #[.string own, .int .i64 e0]) ∧ Below v.heap.size v w')) :
    Calls Tryz.prog 32 #[.string text] w fun e w' => e = .returned (.tuple #[rV zeroR, .int .i64 5]) ∧ Below w.heap.size w w' := by
  have he2 := (nez he).1
  have hb1 := al w (.cells #[.bool false, .string ⟨#[]⟩, .string ⟨#[]⟩] 23)
  have R1 := At.new w false ⟨#[]⟩ ⟨#[]⟩
  unfold rV at T ⊢
  unfold zeroR nil'
  simp only at T ⊢
  go_enter Tryz.func32, Tryz.ntmps32
  go_wp2_with fail
  refine (C1.out _).mono ?_
  rintro e w1 ⟨rfl, rfl⟩
  go_wp2_with fail
  refine (C2.out _ hb1).mono ?_
  rintro e w2 ⟨rfl, h2⟩
  have hb2 := Nb hb1 h2
  have R2 := R1.bt h2
  have hl : w.heap.size < w2.heap.size := (Array.getElem?_eq_some_iff.1 R2).1
  have hb3 := Nb hb2 (al w2 (.cells #[.bool neg, .string n, .string d0] 23))
  have X3 := At.new w2 neg n d0
  have R3 := R2.bt (al w2 (.cells #[.bool neg, .string n, .string d0] 23))
  clear hb1 R1 R2 hb2 h2
  obtain ⟨x0, x1, x2, _, _, _⟩ := X3.cells
  go_wp2_with fail
  refine (T.out _ hb3).mono ?_
  rintro e w4 ⟨rfl, h4⟩
  have hb4 := Nb hb3 h4
  have X4 := X3.bt h4
  have R4 := R3.bt h4
  clear x0 x1 x2 X3 R3 hb3
  obtain ⟨x0, x1, x2, _, _, _⟩ := X4.cells
  obtain ⟨r0, r1, r2, f0, f1, f2⟩ := R4.cells
  go_wp2_with fail
  exact bodyPost_ret (out2 Tryz.results32 _ _ _ _ _ rfl rfl (R4.set _ _ _)) rfl ⟨rfl, Bset2 hb4 (by omega) _ _ _⟩

set_option maxHeartbeats 1000000 in
theorem parse_11 (text u n d0 : ByteArray) (neg : Bool) (own : ByteArray) (ho : (own.toList == text.toList) = false) (w : World)
    (C1 : Hid (∀ v, Calls Tryz.prog 36 #[.string text, .string ⟨#[45]⟩] v fun e w' => e = .returned (.tuple #[.string u, .bool neg]) ∧ v = w'))
    (C2 : Hid (∀ v, Below w.heap.size w v → Calls Tryz.prog 61 #[.string u, .string ⟨#[47]⟩] v fun e w' => e = .returned (.tuple #[.string n, .string d0, .bool true]) ∧ Below v.heap.size v w'))
    (T : Hid (∀ v, Below w.heap.size w v → Calls Tryz.prog 30 #[rV (neg, n, d0)] v fun e w' => e = .returned (.tuple #[.string own, .int .i64 0]) ∧ Below v.heap.size v w')) :
    Calls Tryz.prog 32 #[.string text] w fun e w' => e = .returned (.tuple #[rV zeroR, .int .i64 5]) ∧ Below w.heap.size w w' := by
  have hb1 := al w (.cells #[.bool false, .string ⟨#[]⟩, .string ⟨#[]⟩] 23)
  have R1 := At.new w false ⟨#[]⟩ ⟨#[]⟩
  unfold rV at T ⊢
  unfold zeroR nil'
  simp only at T ⊢
  go_enter Tryz.func32, Tryz.ntmps32
  go_wp2_with fail
  refine (C1.out _).mono ?_
  rintro e w1 ⟨rfl, rfl⟩
  go_wp2_with fail
  refine (C2.out _ hb1).mono ?_
  rintro e w2 ⟨rfl, h2⟩
  have hb2 := Nb hb1 h2
  have R2 := R1.bt h2
  have hl : w.heap.size < w2.heap.size := (Array.getElem?_eq_some_iff.1 R2).1
  have hb3 := Nb hb2 (al w2 (.cells #[.bool neg, .string n, .string d0] 23))
  have X3 := At.new w2 neg n d0
  have R3 := R2.bt (al w2 (.cells #[.bool neg, .string n, .string d0] 23))
  clear hb1 R1 R2 hb2 h2
  obtain ⟨x0, x1, x2, _, _, _⟩ := X3.cells
  go_wp2_with fail
  refine (T.out _ hb3).mono ?_
  rintro e w4 ⟨rfl, h4⟩
  have hb4 := Nb hb3 h4
  have X4 := X3.bt h4
  have R4 := R3.bt h4
  clear x0 x1 x2 X3 R3 hb3
  obtain ⟨x0, x1, x2, _, _, _⟩ := X4.cells
  obtain ⟨r0, r1, r2, f0, f1, f2⟩ := R4.cells
  go_wp2_with fail
  exact bodyPost_ret (out2 Tryz.results32 _ _ _ _ _ rfl rfl (R4.set _ _ _)) rfl ⟨rfl, Bset2 hb4 (by omega) _ _ _⟩

set_option maxHeartbeats 1000000 in
theorem parse_12 (text u n d0 : ByteArray) (neg : Bool) (w : World)
    (C1 : Hid (∀ v, Calls Tryz.prog 36 #[.string text, .string ⟨#[45]⟩] v fun e w' => e = .returned (.tuple #[.string u, .bool neg]) ∧ v = w'))
    (C2 : Hid (∀ v, Below w.heap.size w v → Calls Tryz.prog 61 #[.string u, .string ⟨#[47]⟩] v fun e w' => e = .returned (.tuple #[.string n, .string d0, .bool true]) ∧ Below v.heap.size v w'))
    (T : Hid (∀ v, Below w.heap.size w v → Calls Tryz.prog 30 #[rV (neg, n, d0)] v fun e w' => e = .returned (.tuple #[.string text, .int .i64 0]) ∧ Below v.heap.size v w')) :
    Calls Tryz.prog 32 #[.string text] w fun e w' => e = .returned (.tuple #[rV (neg, n, d0), .int .i64 0]) ∧ Below w.heap.size w w' := by
  have hb1 := al w (.cells #[.bool false, .string ⟨#[]⟩, .string ⟨#[]⟩] 23)
  have R1 := At.new w false ⟨#[]⟩ ⟨#[]⟩
  unfold rV at T ⊢
  skip
  simp only at T ⊢
  go_enter Tryz.func32, Tryz.ntmps32
  go_wp2_with fail
  refine (C1.out _).mono ?_
  rintro e w1 ⟨rfl, rfl⟩
  go_wp2_with fail
  refine (C2.out _ hb1).mono ?_
  rintro e w2 ⟨rfl, h2⟩
  have hb2 := Nb hb1 h2
  have R2 := R1.bt h2
  have hl : w.heap.size < w2.heap.size := (Array.getElem?_eq_some_iff.1 R2).1
  have hb3 := Nb hb2 (al w2 (.cells #[.bool neg, .string n, .string d0] 23))
  have X3 := At.new w2 neg n d0
  have R3 := R2.bt (al w2 (.cells #[.bool neg, .string n, .string d0] 23))
  clear hb1 R1 R2 hb2 h2
  obtain ⟨x0, x1, x2, _, _, _⟩ := X3.cells
  go_wp2_with fail
  refine (T.out _ hb3).mono ?_
  rintro e w4 ⟨rfl, h4⟩
  have hb4 := Nb hb3 h4
  have X4 := X3.bt h4
  have R4 := R3.bt h4
  clear x0 x1 x2 X3 R3 hb3
  obtain ⟨x0, x1, x2, _, _, _⟩ := X4.cells
  obtain ⟨r0, r1, r2, f0, f1, f2⟩ := R4.cells
  go_wp2_with fail
  exact bodyPost_ret (out2 Tryz.results32 _ _ _ _ _ rfl rfl (R4.set _ _ _)) rfl ⟨rfl, Bset2 hb4 (by omega) _ _ _⟩

theorem parseR_any (t : ByteArray) (w : World) (hP : Px w.heap.size w) (ht : t.size ≤ 1000) :
    Calls Tryz.prog 32 #[.string t] w fun e w' => e = .returned (.tuple #[rV (parseF t).1, .int .i64 (parseF t).2]) ∧ Below w.heap.size w w' := by
  have C1 := Lib.hid (fun v => cutpre_any t v (by unfold maxLen; omega))
  have hu : (cutM t).1.size ≤ 1000 := by
    unfold cutM
    split
    · rw [ByteArray.size_extract]; omega
    · exact ht
  have C2 := Lib.hid (fun v (h : Below w.heap.size w v) => cut_any (cutM t).1 v (by omega) (hP.bt h).2)
  obtain ⟨hc1, hc2⟩ := cutS_len (cutM t).1
  have T : Hid (∀ v, Below w.heap.size w v → Calls Tryz.prog 30 #[rV (spl t)] v fun e w' => e = .returned (.tuple #[.string (textF (spl t)).1, .int .i64 (textF (spl t)).2]) ∧ Below v.heap.size v w') := Lib.hid (fun v h => textR_any (spl t) v (hP.bt h).1 (by show (cutS (cutM t).1).1.size ≤ 1000; omega) (by
    show (if (cutS (cutM t).1).2.2 then (cutS (cutM t).1).2.1 else ⟨#[49]⟩ : ByteArray).size ≤ 1000
    split
    · omega
    · decide))
  unfold parseF
  clear hP
  by_cases hv : vR (spl t) = true
  · have hx : textF (spl t) = (tR (spl t), 0) := by unfold textF; rw [if_pos hv]
    rw [hx] at T
    by_cases ho : tR (spl t) = t
    · rw [if_pos (by rw [hv, decide_eq_true ho]; rfl)]
      rw [ho] at T
      unfold spl at T ⊢
      cases hf : (cutS (cutM t).1).2.2
      · rw [hf] at C2 T
        exact parse_02 t _ _ _ _ w C1 C2 T
      · rw [hf] at C2 T
        exact parse_12 t _ _ _ _ w C1 C2 T
    · rw [if_neg (by rw [decide_eq_false ho]; simp)]
      have ho2 := bytes_ne ho
      unfold spl at T ho2
      cases hf : (cutS (cutM t).1).2.2
      · rw [hf] at C2 T ho2
        exact parse_01 t _ _ _ _ _ ho2 w C1 C2 T
      · rw [hf] at C2 T ho2
        exact parse_11 t _ _ _ _ _ ho2 w C1 C2 T
  · have hv' : vR (spl t) = false := by simpa using hv
    have hx : textF (spl t) = (nil', 1) := by unfold textF; rw [if_neg hv]
    rw [hx] at T
    rw [if_neg (by rw [hv']; simp)]
    unfold spl at T
    cases hf : (cutS (cutM t).1).2.2
    · rw [hf] at C2 T
      exact parse_00 t _ _ _ _ _ _ (show (1 : Int) ≠ 0 by omega) w C1 C2 T
    · rw [hf] at C2 T
      exact parse_10 t _ _ _ _ _ _ (show (1 : Int) ≠ 0 by omega) w C1 C2 T
end Go.Proofs.YtmnnaaifebajnaaGreatDoor

