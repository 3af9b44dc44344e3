/- The reference's Short, and the law's short, of one, two, three numbers. -/
import Derived.Test.YtmnnaaifebajnaaGreatDoorRaOf
set_option linter.unusedSimpArgs false
set_option linter.unusedVariables false
namespace Go.Proofs.YtmnnaaifebajnaaGreatDoor
open Go.RowKit
open Ra (Fit)
set_option maxRecDepth 100000

def ShP (m : Nat) (l : List ByteArray) (e : Ending) (w w' : World) : Prop := ∃ r, e = .returned (.bool r) ∧ (r = true → ∀ x ∈ l, x.size ≤ m) ∧ w = w'

set_option maxHeartbeats 1000000 in
theorem short1 (m : Nat) (hm : m ≤ 1000) (b : Nat) (x0 y0 : ByteArray) (w : World) (c0 : w.cell? ⟨b, 1, none⟩ = some (.string x0)) (e0 : w.cell? ⟨b, 2, none⟩ = some (.string y0))
    (hx0 : x0.size ≤ 9223372036854775807) (hy0 : y0.size ≤ 9223372036854775807) :
    Calls Tryz.prog 35 #[.int .i64 (m : Int), .slice (some ⟨b, 0, none⟩) 1 1] w fun e w' => ShP m [x0, y0] e w w' := by
  go_enter Tryz.func35, Tryz.ntmps35
  go_wp2
  go_loop [5] (fun i => i = .int .i64 0 ∨ (i = .int .i64 1 ∧ (x0.size ≤ m ∧ y0.size ≤ m))) (fun i => 1 - (intOf i).toNat)
  case atStart => exact .inl rfl
  case round =>
    rcases hrel with rfl | ⟨rfl, p0⟩
    · by_cases h1 : (m : Int) < x0.size
      · go_wp2
        go_ret
        exact ⟨_, rfl, (fun h => by cases h), rfl⟩
      · by_cases h2 : (m : Int) < y0.size
        · go_wp2
          go_ret
          exact ⟨_, rfl, (fun h => by cases h), rfl⟩
        · go_wp2
          exact ⟨.inr (⟨rfl, ⟨by omega, by omega⟩⟩), by simp [intOf]⟩
    · go_wp2
      go_ret
      exact ⟨_, rfl, (fun _ => by simp only [List.mem_cons, List.not_mem_nil, or_false, forall_eq_or_imp, forall_eq]; omega), rfl⟩

theorem lshort1 (m : Nat) (hm : m ≤ 1000) (b : Nat) (x0 y0 : ByteArray) (w : World) (c0 : w.cell? ⟨b, 1, none⟩ = some (.string x0)) (e0 : w.cell? ⟨b, 2, none⟩ = some (.string y0))
    (hx0 : x0.size ≤ 9223372036854775807) (hy0 : y0.size ≤ 9223372036854775807) :
    Calls Tryz.prog 11 #[.int .i64 (m : Int), .slice (some ⟨b, 0, none⟩) 1 1] w fun e w' => ShP m [x0, y0] e w w' := by
  have C := Lib.hid (short1 m hm b x0 y0 w c0 e0 hx0 hy0)
  go_enter Tryz.func11, Tryz.ntmps11
  go_wp2_with fail
  refine C.out.mono ?_
  rintro e w1 ⟨r, rfl, hr, rfl⟩
  go_wp2_with fail
  go_ret
  exact ⟨r, rfl, hr, rfl⟩

set_option maxHeartbeats 1000000 in
theorem short2 (m : Nat) (hm : m ≤ 1000) (b : Nat) (x0 y0 x1 y1 : ByteArray) (w : World) (c0 : w.cell? ⟨b, 1, none⟩ = some (.string x0)) (e0 : w.cell? ⟨b, 2, none⟩ = some (.string y0)) (c1 : w.cell? ⟨b, 4, none⟩ = some (.string x1)) (e1 : w.cell? ⟨b, 5, none⟩ = some (.string y1))
    (hx0 : x0.size ≤ 9223372036854775807) (hy0 : y0.size ≤ 9223372036854775807) ( hx1 : x1.size ≤ 9223372036854775807) (hy1 : y1.size ≤ 9223372036854775807) :
    Calls Tryz.prog 35 #[.int .i64 (m : Int), .slice (some ⟨b, 0, none⟩) 2 2] w fun e w' => ShP m [x0, y0, x1, y1] e w w' := by
  go_enter Tryz.func35, Tryz.ntmps35
  go_wp2
  go_loop [5] (fun i => i = .int .i64 0 ∨ (i = .int .i64 1 ∧ (x0.size ≤ m ∧ y0.size ≤ m)) ∨ (i = .int .i64 2 ∧ (x0.size ≤ m ∧ y0.size ≤ m) ∧ (x1.size ≤ m ∧ y1.size ≤ m))) (fun i => 2 - (intOf i).toNat)
  case atStart => exact .inl rfl
  case round =>
    rcases hrel with rfl | ⟨rfl, p0⟩ | ⟨rfl, p0, p1⟩
    · by_cases h1 : (m : Int) < x0.size
      · go_wp2
        go_ret
        exact ⟨_, rfl, (fun h => by cases h), rfl⟩
      · by_cases h2 : (m : Int) < y0.size
        · go_wp2
          go_ret
          exact ⟨_, rfl, (fun h => by cases h), rfl⟩
        · go_wp2
          exact ⟨.inr (.inl ⟨rfl, ⟨by omega, by omega⟩⟩), by simp [intOf]⟩
    · by_cases h1 : (m : Int) < x1.size
      · go_wp2
        go_ret
        exact ⟨_, rfl, (fun h => by cases h), rfl⟩
      · by_cases h2 : (m : Int) < y1.size
        · go_wp2
          go_ret
          exact ⟨_, rfl, (fun h => by cases h), rfl⟩
        · go_wp2
          exact ⟨.inr (.inr (⟨rfl, p0, ⟨by omega, by omega⟩⟩)), by simp [intOf]⟩
    · go_wp2
      go_ret
      exact ⟨_, rfl, (fun _ => by simp only [List.mem_cons, List.not_mem_nil, or_false, forall_eq_or_imp, forall_eq]; omega), rfl⟩

theorem lshort2 (m : Nat) (hm : m ≤ 1000) (b : Nat) (x0 y0 x1 y1 : ByteArray) (w : World) (c0 : w.cell? ⟨b, 1, none⟩ = some (.string x0)) (e0 : w.cell? ⟨b, 2, none⟩ = some (.string y0)) (c1 : w.cell? ⟨b, 4, none⟩ = some (.string x1)) (e1 : w.cell? ⟨b, 5, none⟩ = some (.string y1))
    (hx0 : x0.size ≤ 9223372036854775807) (hy0 : y0.size ≤ 9223372036854775807) ( hx1 : x1.size ≤ 9223372036854775807) (hy1 : y1.size ≤ 9223372036854775807) :
    Calls Tryz.prog 11 #[.int .i64 (m : Int), .slice (some ⟨b, 0, none⟩) 2 2] w fun e w' => ShP m [x0, y0, x1, y1] e w w' := by
  have C := Lib.hid (short2 m hm b x0 y0 x1 y1 w c0 e0 c1 e1 hx0 hy0 hx1 hy1)
  go_enter Tryz.func11, Tryz.ntmps11
  go_wp2_with fail
  refine C.out.mono ?_
  rintro e w1 ⟨r, rfl, hr, rfl⟩
  go_wp2_with fail
  go_ret
  exact ⟨r, rfl, hr, rfl⟩

set_option maxHeartbeats 1000000 in
theorem short3 (m : Nat) (hm : m ≤ 1000) (b : Nat) (x0 y0 x1 y1 x2 y2 : ByteArray) (w : World) (c0 : w.cell? ⟨b, 1, none⟩ = some (.string x0)) (e0 : w.cell? ⟨b, 2, none⟩ = some (.string y0)) (c1 : w.cell? ⟨b, 4, none⟩ = some (.string x1)) (e1 : w.cell? ⟨b, 5, none⟩ = some (.string y1)) (c2 : w.cell? ⟨b, 7, none⟩ = some (.string x2)) (e2 : w.cell? ⟨b, 8, none⟩ = some (.string y2))
    (hx0 : x0.size ≤ 9223372036854775807) (hy0 : y0.size ≤ 9223372036854775807) ( hx1 : x1.size ≤ 9223372036854775807) (hy1 : y1.size ≤ 9223372036854775807) ( hx2 : x2.size ≤ 9223372036854775807) (hy2 : y2.size ≤ 9223372036854775807) :
    Calls Tryz.prog 35 #[.int .i64 (m : Int), .slice (some ⟨b, 0, none⟩) 3 3] w fun e w' => ShP m [x0, y0, x1, y1, x2, y2] e w w' := by
  go_enter Tryz.func35, Tryz.ntmps35
  go_wp2
  go_loop [5] (fun i => i = .int .i64 0 ∨ (i = .int .i64 1 ∧ (x0.size ≤ m ∧ y0.size ≤ m)) ∨ (i = .int .i64 2 ∧ (x0.size ≤ m ∧ y0.size ≤ m) ∧ (x1.size ≤ m ∧ y1.size ≤ m)) ∨ (i = .int .i64 3 ∧ (x0.size ≤ m ∧ y0.size ≤ m) ∧ (x1.size ≤ m ∧ y1.size ≤ m) ∧ (x2.size ≤ m ∧ y2.size ≤ m))) (fun i => 3 - (intOf i).toNat)
  case atStart => exact .inl rfl
  case round =>
    rcases hrel with rfl | ⟨rfl, p0⟩ | ⟨rfl, p0, p1⟩ | ⟨rfl, p0, p1, p2⟩
    · by_cases h1 : (m : Int) < x0.size
      · go_wp2
        go_ret
        exact ⟨_, rfl, (fun h => by cases h), rfl⟩
      · by_cases h2 : (m : Int) < y0.size
        · go_wp2
          go_ret
          exact ⟨_, rfl, (fun h => by cases h), rfl⟩
        · go_wp2
          exact ⟨.inr (.inl ⟨rfl, ⟨by omega, by omega⟩⟩), by simp [intOf]⟩
    · by_cases h1 : (m : Int) < x1.size
      · go_wp2
        go_ret
        exact ⟨_, rfl, (fun h => by cases h), rfl⟩
      · by_cases h2 : (m : Int) < y1.size
        · go_wp2
          go_ret
          exact ⟨_, rfl, (fun h => by cases h), rfl⟩
        · go_wp2
          exact ⟨.inr (.inr (.inl ⟨rfl, p0, ⟨by omega, by omega⟩⟩)), by simp [intOf]⟩
    · by_cases h1 : (m : Int) < x2.size
      · go_wp2
        go_ret
        exact ⟨_, rfl, (fun h => by cases h), rfl⟩
      · by_cases h2 : (m : Int) < y2.size
        · go_wp2
          go_ret
          exact ⟨_, rfl, (fun h => by cases h), rfl⟩
        · go_wp2
          exact ⟨.inr (.inr (.inr (⟨rfl, p0, p1, ⟨by omega, by omega⟩⟩))), by simp [intOf]⟩
    · go_wp2
      go_ret
      exact ⟨_, rfl, (fun _ => by simp only [List.mem_cons, List.not_mem_nil, or_false, forall_eq_or_imp, forall_eq]; omega), rfl⟩

theorem lshort3 (m : Nat) (hm : m ≤ 1000) (b : Nat) (x0 y0 x1 y1 x2 y2 : ByteArray) (w : World) (c0 : w.cell? ⟨b, 1, none⟩ = some (.string x0)) (e0 : w.cell? ⟨b, 2, none⟩ = some (.string y0)) (c1 : w.cell? ⟨b, 4, none⟩ = some (.string x1)) (e1 : w.cell? ⟨b, 5, none⟩ = some (.string y1)) (c2 : w.cell? ⟨b, 7, none⟩ = some (.string x2)) (e2 : w.cell? ⟨b, 8, none⟩ = some (.string y2))
    (hx0 : x0.size ≤ 9223372036854775807) (hy0 : y0.size ≤ 9223372036854775807) ( hx1 : x1.size ≤ 9223372036854775807) (hy1 : y1.size ≤ 9223372036854775807) ( hx2 : x2.size ≤ 9223372036854775807) (hy2 : y2.size ≤ 9223372036854775807) :
    Calls Tryz.prog 11 #[.int .i64 (m : Int), .slice (some ⟨b, 0, none⟩) 3 3] w fun e w' => ShP m [x0, y0, x1, y1, x2, y2] e w w' := by
  have C := Lib.hid (short3 m hm b x0 y0 x1 y1 x2 y2 w c0 e0 c1 e1 c2 e2 hx0 hy0 hx1 hy1 hx2 hy2)
  go_enter Tryz.func11, Tryz.ntmps11
  go_wp2_with fail
  refine C.out.mono ?_
  rintro e w1 ⟨r, rfl, hr, rfl⟩
  go_wp2_with fail
  go_ret
  exact ⟨r, rfl, hr, rfl⟩

end Go.Proofs.YtmnnaaifebajnaaGreatDoor

