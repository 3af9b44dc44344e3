/- MoneySplitsMatch. -/
import Derived.Test.YtkbncdcphohmiaaGreatDoorMoRr
import Derived.Test.YtkbncdcphohmiaaGreatDoorMoSpR
set_option linter.unusedSimpArgs false
set_option linter.unusedVariables false
namespace Go.Proofs.YtkbncdcphohmiaaGreatDoor
open Go.RowKit
set_option maxRecDepth 100000

set_option maxHeartbeats 2000000 in
theorem Mo.sm_1 (ps : Bool) (px py : ByteArray) (u : Int) (A : Option Addr) (n cp : Nat) (w : World) (h1 : (60 : Int) < (px.size : Int)) 
    (H : Hid (∀ v, Below w.heap.size w v → Calls Tryz.prog 10 #[] v fun e w' => e = .returned (.bool true) ∧ Below v.heap.size v w')) :
    Calls Tryz.prog 4 #[.agg #[.bool ps, .string px, .string py], .int .i64 u, .slice A n cp] w fun e w' => e = .returned (.bool true) ∧ Below w.heap.size w w' := by
  have hb := al w (.cells #[.bool ps, .string px, .string py] 32)
  have A0 := At.new w ps px py
  go_enter Tryz.func4, Tryz.ntmps4
  go_wp2_with fail
  refine (H.out _ hb).mono ?_
  rintro e v1 ⟨rfl, g⟩
  have hb' := Mo.Nb hb g
  have A0' := A0.bt g
  clear hb A0
  have hb := hb'
  have A0 := A0'
  clear hb' A0'
  clear g
  obtain ⟨A0c0, A0c1, A0c2, _, _, _⟩ := A0.cells
  go_wp2_with fail
  go_ret
  exact ⟨rfl, hb⟩

set_option maxHeartbeats 2000000 in
theorem Mo.sm_2 (ps : Bool) (px py : ByteArray) (u : Int) (A : Option Addr) (n cp : Nat) (w : World) (h1 : ¬ (60 : Int) < (px.size : Int)) (h2 : (60 : Int) < (py.size : Int)) 
    (H : Hid (∀ v, Below w.heap.size w v → Calls Tryz.prog 10 #[] v fun e w' => e = .returned (.bool true) ∧ Below v.heap.size v w')) :
    Calls Tryz.prog 4 #[.agg #[.bool ps, .string px, .string py], .int .i64 u, .slice A n cp] w fun e w' => e = .returned (.bool true) ∧ Below w.heap.size w w' := by
  have hb := al w (.cells #[.bool ps, .string px, .string py] 32)
  have A0 := At.new w ps px py
  go_enter Tryz.func4, Tryz.ntmps4
  go_wp2_with fail
  refine (H.out _ hb).mono ?_
  rintro e v1 ⟨rfl, g⟩
  have hb' := Mo.Nb hb g
  have A0' := A0.bt g
  clear hb A0
  have hb := hb'
  have A0 := A0'
  clear hb' A0'
  clear g
  obtain ⟨A0c0, A0c1, A0c2, _, _, _⟩ := A0.cells
  go_wp2_with fail
  go_ret
  exact ⟨rfl, hb⟩

set_option maxHeartbeats 2000000 in
theorem Mo.sm_3 (ps : Bool) (px py : ByteArray) (u : Int) (A : Option Addr) (n cp : Nat) (w : World) (h1 : ¬ (60 : Int) < (px.size : Int)) (h2 : ¬ (60 : Int) < (py.size : Int)) (h3 : (30 : Int) < (n : Int)) 
    (H : Hid (∀ v, Below w.heap.size w v → Calls Tryz.prog 10 #[] v fun e w' => e = .returned (.bool true) ∧ Below v.heap.size v w')) :
    Calls Tryz.prog 4 #[.agg #[.bool ps, .string px, .string py], .int .i64 u, .slice A n cp] w fun e w' => e = .returned (.bool true) ∧ Below w.heap.size w w' := by
  have hb := al w (.cells #[.bool ps, .string px, .string py] 32)
  have A0 := At.new w ps px py
  go_enter Tryz.func4, Tryz.ntmps4
  go_wp2_with fail
  refine (H.out _ hb).mono ?_
  rintro e v1 ⟨rfl, g⟩
  have hb' := Mo.Nb hb g
  have A0' := A0.bt g
  clear hb A0
  have hb := hb'
  have A0 := A0'
  clear hb' A0'
  clear g
  obtain ⟨A0c0, A0c1, A0c2, _, _, _⟩ := A0.cells
  go_wp2_with fail
  go_ret
  exact ⟨rfl, hb⟩

set_option maxHeartbeats 2000000 in
theorem Mo.sm_4 (ps : Bool) (px py : ByteArray) (u : Int) (A : Option Addr) (n cp : Nat) (w : World) (h1 : ¬ (60 : Int) < (px.size : Int)) (h2 : ¬ (60 : Int) < (py.size : Int)) (h3 : ¬ (30 : Int) < (n : Int)) (m e0 : Int) 
    (H : Hid (∀ v, Below w.heap.size w v → Calls Tryz.prog 10 #[] v fun e w' => e = .returned (.bool true) ∧ Below v.heap.size v w'))
    (R1 : Hid (∀ v, Below w.heap.size w v → Calls Tryz.prog 21 #[.agg #[.bool ps, .string px, .string py]] v fun e w' => e = .returned (.tuple #[.int .i64 m, .int .i64 e0]) ∧ Below v.heap.size v w'))
    (R2 : Hid (∀ v, Below w.heap.size w v → Calls Tryz.prog 22 #[.agg #[.bool ps, .string px, .string py]] v fun e w' => e = .returned (.tuple #[.int .i64 m, .int .i64 e0]) ∧ Below v.heap.size v w'))
    (S1 : Hid (∀ v, Below w.heap.size w v → Calls Tryz.prog 23 #[.int .i64 u, .slice A n cp] v fun e w' => e = .returned (.tuple #[.slice none 0 0, .int .i64 1]) ∧ Below v.heap.size v w'))
    (S2 : Hid (∀ v, Below w.heap.size w v → Calls Tryz.prog 24 #[.int .i64 u, .slice A n cp] v fun e w' => e = .returned (.tuple #[.slice none 0 0, .int .i64 1]) ∧ Below v.heap.size v w'))
    (I1 : Hid (∀ v, Below w.heap.size w v → Calls Tryz.prog 25 #[.slice none 0 0, .slice none 0 0] v fun e w' => e = .returned (.bool true) ∧ Below v.heap.size v w')) :
    Calls Tryz.prog 4 #[.agg #[.bool ps, .string px, .string py], .int .i64 u, .slice A n cp] w fun e w' => e = .returned (.bool true) ∧ Below w.heap.size w w' := by
  have hb := al w (.cells #[.bool ps, .string px, .string py] 32)
  have A0 := At.new w ps px py
  go_enter Tryz.func4, Tryz.ntmps4
  go_wp2_with fail
  refine (H.out _ hb).mono ?_
  rintro e v1 ⟨rfl, g⟩
  have hb' := Mo.Nb hb g
  have A0' := A0.bt g
  clear hb A0
  have hb := hb'
  have A0 := A0'
  clear hb' A0'
  clear g
  obtain ⟨A0c0, A0c1, A0c2, _, _, _⟩ := A0.cells
  go_wp2_with fail
  refine (R1.out _ hb).mono ?_
  rintro e v2 ⟨rfl, g⟩
  clear A0c0 A0c1 A0c2
  have hb' := Mo.Nb hb g
  have A0' := A0.bt g
  clear hb A0
  have hb := hb'
  have A0 := A0'
  clear hb' A0'
  clear g
  obtain ⟨A0c0, A0c1, A0c2, _, _, _⟩ := A0.cells
  go_wp2_with fail
  refine (R2.out _ hb).mono ?_
  rintro e v3 ⟨rfl, g⟩
  clear A0c0 A0c1 A0c2
  have hb' := Mo.Nb hb g
  have A0' := A0.bt g
  clear hb A0
  have hb := hb'
  have A0 := A0'
  clear hb' A0'
  clear g
  go_wp2_with fail
  refine (S1.out _ hb).mono ?_
  rintro e v4 ⟨rfl, g⟩
  have hb' := Mo.Nb hb g
  have A0' := A0.bt g
  clear hb A0
  have hb := hb'
  have A0 := A0'
  clear hb' A0'
  clear g
  go_wp2_with fail
  refine (S2.out _ hb).mono ?_
  rintro e v5 ⟨rfl, g⟩
  have hb' := Mo.Nb hb g
  have A0' := A0.bt g
  clear hb A0
  have hb := hb'
  have A0 := A0'
  clear hb' A0'
  clear g
  go_wp2_with fail
  refine (I1.out _ hb).mono ?_
  rintro e v6 ⟨rfl, g⟩
  have hb' := Mo.Nb hb g
  have A0' := A0.bt g
  clear hb A0
  have hb := hb'
  have A0 := A0'
  clear hb' A0'
  clear g
  go_wp2_with fail
  go_ret
  exact ⟨rfl, hb⟩

set_option maxHeartbeats 2000000 in
theorem Mo.sm_5 (ps : Bool) (px py : ByteArray) (u : Int) (A : Option Addr) (n cp : Nat) (w : World) (h1 : ¬ (60 : Int) < (px.size : Int)) (h2 : ¬ (60 : Int) < (py.size : Int)) (h3 : ¬ (30 : Int) < (n : Int)) (m e0 : Int) (l : List Int) 
    (H : Hid (∀ v, Below w.heap.size w v → Calls Tryz.prog 10 #[] v fun e w' => e = .returned (.bool true) ∧ Below v.heap.size v w'))
    (R1 : Hid (∀ v, Below w.heap.size w v → Calls Tryz.prog 21 #[.agg #[.bool ps, .string px, .string py]] v fun e w' => e = .returned (.tuple #[.int .i64 m, .int .i64 e0]) ∧ Below v.heap.size v w'))
    (R2 : Hid (∀ v, Below w.heap.size w v → Calls Tryz.prog 22 #[.agg #[.bool ps, .string px, .string py]] v fun e w' => e = .returned (.tuple #[.int .i64 m, .int .i64 e0]) ∧ Below v.heap.size v w'))
    (S1 : Hid (∀ v, Below w.heap.size w v → Calls Tryz.prog 23 #[.int .i64 u, .slice A n cp] v fun e w' => ∃ g, e = .returned (.tuple #[.slice (some ⟨g, 0, none⟩) n n, .int .i64 0]) ∧ Mo.Zs w' w'.heap.size (some ⟨g, 0, none⟩) l ∧ Below v.heap.size v w'))
    (S2 : Hid (∀ v, Below w.heap.size w v → Calls Tryz.prog 24 #[.int .i64 u, .slice A n cp] v fun e w' => ∃ g, e = .returned (.tuple #[.slice (some ⟨g, 0, none⟩) n n, .int .i64 0]) ∧ Mo.Zs w' w'.heap.size (some ⟨g, 0, none⟩) l ∧ Below v.heap.size v w'))
    (I1 : Hid (∀ (v : World) (g1 g2 : Nat), Mo.Zs v v.heap.size (some ⟨g1, 0, none⟩) l → Mo.Zs v v.heap.size (some ⟨g2, 0, none⟩) l → Calls Tryz.prog 25 #[.slice (some ⟨g1, 0, none⟩) n n, .slice (some ⟨g2, 0, none⟩) n n] v fun e w' => e = .returned (.bool true) ∧ Below v.heap.size v w')) :
    Calls Tryz.prog 4 #[.agg #[.bool ps, .string px, .string py], .int .i64 u, .slice A n cp] w fun e w' => e = .returned (.bool true) ∧ Below w.heap.size w w' := by
  have hb := al w (.cells #[.bool ps, .string px, .string py] 32)
  have A0 := At.new w ps px py
  go_enter Tryz.func4, Tryz.ntmps4
  go_wp2_with fail
  refine (H.out _ hb).mono ?_
  rintro e v1 ⟨rfl, g⟩
  have hb' := Mo.Nb hb g
  have A0' := A0.bt g
  clear hb A0
  have hb := hb'
  have A0 := A0'
  clear hb' A0'
  clear g
  obtain ⟨A0c0, A0c1, A0c2, _, _, _⟩ := A0.cells
  go_wp2_with fail
  refine (R1.out _ hb).mono ?_
  rintro e v2 ⟨rfl, g⟩
  clear A0c0 A0c1 A0c2
  have hb' := Mo.Nb hb g
  have A0' := A0.bt g
  clear hb A0
  have hb := hb'
  have A0 := A0'
  clear hb' A0'
  clear g
  obtain ⟨A0c0, A0c1, A0c2, _, _, _⟩ := A0.cells
  go_wp2_with fail
  refine (R2.out _ hb).mono ?_
  rintro e v3 ⟨rfl, g⟩
  clear A0c0 A0c1 A0c2
  have hb' := Mo.Nb hb g
  have A0' := A0.bt g
  clear hb A0
  have hb := hb'
  have A0 := A0'
  clear hb' A0'
  clear g
  go_wp2_with fail
  refine (S1.out _ hb).mono ?_
  rintro e v1 ⟨g1, rfl, z1, g⟩
  have hb' := Mo.Nb hb g
  clear hb g A0
  have hb := hb'
  clear hb'
  go_wp2_with fail
  refine (S2.out _ hb).mono ?_
  rintro e v2 ⟨g2, rfl, z2, g⟩
  have hb' := Mo.Nb hb g
  have z1' := z1.bt g
  clear hb g z1
  have hb := hb'
  clear hb'
  go_wp2_with fail
  refine (I1.out _ g1 g2 z1' z2).mono ?_
  rintro e v3 ⟨rfl, g⟩
  have hb' := Mo.Nb hb g
  clear hb g z1' z2
  have hb := hb'
  clear hb'
  go_wp2_with fail
  go_ret
  exact ⟨rfl, hb⟩

theorem splitsMatch_walk (a : R3) (u : Int) (A : Option Addr) (cp : Nat) (l : List Int) (w : World) (hP : Mo.Pa w.heap.size w) (ha : a.2.1.size ≤ maxLen ∧ a.2.2.size ≤ maxLen) (hu : (Go.Lit.int .i64 u).wf = true) (hz : Mo.Zs w w.heap.size A l) (hm : l.length ≤ maxLen) :
    Calls Tryz.prog 4 #[rV a, .int .i64 u, .slice A l.length cp] w fun e w' => e = .returned (.bool true) ∧ Below w.heap.size w w' := by
  have H := Lib.hid (fun v (h : Below w.heap.size w v) => Mo.head_any v (hP.bt h).pm)
  obtain ⟨z1, z2⟩ := ha
  obtain ⟨s, x, y⟩ := a
  simp only at z1 z2
  unfold maxLen at z1 z2
  by_cases h1 : (60 : Int) < (x.size : Int)
  · exact Mo.sm_1 (u := u) (ps := s) (px := x) (py := y) (A := A) (n := l.length) (cp := cp) (w := w) (h1 := h1) (H := H)
  · by_cases h2 : (60 : Int) < (y.size : Int)
    · exact Mo.sm_2 (u := u) (ps := s) (px := x) (py := y) (A := A) (n := l.length) (cp := cp) (w := w) (h1 := h1) (h2 := h2) (H := H)
    · by_cases h3 : (30 : Int) < (l.length : Int)
      · exact Mo.sm_3 (u := u) (ps := s) (px := x) (py := y) (A := A) (n := l.length) (cp := cp) (w := w) (h1 := h1) (h2 := h2) (h3 := h3) (H := H)
      · have R1 := Lib.hid (fun v (h : Below w.heap.size w v) => Mo.round_any (s, x, y) v (hP.bt h).pm ⟨z1, z2⟩)
        have R2 := Lib.hid (fun v (_ : Below w.heap.size w v) => Mo.rround_any (s, x, y) v ⟨by show x.size ≤ 60; omega, by show y.size ≤ 60; omega⟩)
        by_cases hb : Mo.okP l = false ∨ u < 0 ∨ 1000000000000 < u
        · have S1 := Lib.hid (fun v (h : Below w.heap.size w v) => Mo.split_bad u A cp l v (hz.bt h) hm hb)
          have S2 : Hid (∀ v, Below w.heap.size w v → Calls Tryz.prog 24 #[.int .i64 u, .slice A l.length cp] v fun e w' => e = .returned (.tuple #[.slice none 0 0, .int .i64 1]) ∧ Below v.heap.size v w') := Lib.hid (fun v h => (Mo.rs_bad u A cp l v (hz.bt h) (by omega) hb).mono fun e w' h => ⟨h.1, by rw [h.2]; exact Below.refl _ _⟩)
          have I1 : Hid (∀ v, Below w.heap.size w v → Calls Tryz.prog 25 #[.slice none 0 0, .slice none 0 0] v fun e w' => e = .returned (.bool true) ∧ Below v.heap.size v w') := Lib.hid (fun v _ => by
            refine (Mo.ints_any none none 0 0 [] [] v (fun k hk => absurd hk (by simp)) (fun k hk => absurd hk (by simp)) (by simp [maxLen]) (by simp [maxLen])).mono ?_
            rintro e w' ⟨rfl, q, rfl⟩
            exact ⟨by simp, Mo.dn (Below.refl _ _) q⟩)
          exact Mo.sm_4 (u := u) (ps := s) (px := x) (py := y) (A := A) (n := l.length) (cp := cp) (w := w) (h1 := h1) (h2 := h2) (h3 := h3) (H := H) (R1 := R1) (R2 := R2) (S1 := S1) (S2 := S2) (I1 := I1)
        · have hok : Mo.okP l = true := by
            cases e : Mo.okP l with
            | true => rfl
            | false => exact absurd (.inl e) hb
          obtain ⟨n, rfl⟩ : ∃ n : Nat, u = (n : Int) := ⟨u.toNat, by omega⟩
          have hlen : (Mo.row l.length (Mo.out n (Mo.sum l.length (Mo.pn l)) (Mo.pn l) l.length)).length = l.length := Mo.row_len _ _
          have S1 : Hid (∀ v, Below w.heap.size w v → Calls Tryz.prog 23 #[.int .i64 (n : Int), .slice A l.length cp] v fun e w' => ∃ g, e = .returned (.tuple #[.slice (some ⟨g, 0, none⟩) l.length l.length, .int .i64 0]) ∧ Mo.Zs w' w'.heap.size (some ⟨g, 0, none⟩) (Mo.row l.length (Mo.out n (Mo.sum l.length (Mo.pn l)) (Mo.pn l) l.length)) ∧ Below v.heap.size v w') := Lib.hid (fun v h => (Mo.split_ok n A cp l v (hz.bt h) (by omega) hok (by omega)).mono fun e w' ⟨g, h1, h2, h3⟩ => ⟨g, h1, Mo.own_zs h2, h3⟩)
          have S2 : Hid (∀ v, Below w.heap.size w v → Calls Tryz.prog 24 #[.int .i64 (n : Int), .slice A l.length cp] v fun e w' => ∃ g, e = .returned (.tuple #[.slice (some ⟨g, 0, none⟩) l.length l.length, .int .i64 0]) ∧ Mo.Zs w' w'.heap.size (some ⟨g, 0, none⟩) (Mo.row l.length (Mo.out n (Mo.sum l.length (Mo.pn l)) (Mo.pn l) l.length)) ∧ Below v.heap.size v w') := Lib.hid (fun v h => (Mo.rs_ok n A cp l v (hz.bt h) (by omega) hok (by omega)).mono fun e w' ⟨g, h1, h2, h3⟩ => ⟨g, h1, Mo.own_zs h2, h3⟩)
          generalize Mo.row l.length (Mo.out n (Mo.sum l.length (Mo.pn l)) (Mo.pn l) l.length) = m at *
          have I1 : Hid (∀ (v : World) (g1 g2 : Nat), Mo.Zs v v.heap.size (some ⟨g1, 0, none⟩) m → Mo.Zs v v.heap.size (some ⟨g2, 0, none⟩) m → Calls Tryz.prog 25 #[.slice (some ⟨g1, 0, none⟩) l.length l.length, .slice (some ⟨g2, 0, none⟩) l.length l.length] v fun e w' => e = .returned (.bool true) ∧ Below v.heap.size v w') := Lib.hid (fun v g1 g2 y1 y2 => by
            have := Mo.ints_any (some ⟨g1, 0, none⟩) (some ⟨g2, 0, none⟩) l.length l.length m m v y1 y2 (by rw [hlen]; exact hm) (by rw [hlen]; exact hm)
            rw [hlen] at this
            refine this.mono ?_
            rintro e w' ⟨rfl, q, rfl⟩
            exact ⟨by simp, Mo.dn (Below.refl _ _) q⟩)
          exact Mo.sm_5 (ps := s) (px := x) (py := y) (A := A) (n := l.length) (cp := cp) (w := w) (h1 := h1) (h2 := h2) (h3 := h3) (H := H) (R1 := R1) (R2 := R2) (S1 := S1) (S2 := S2) (I1 := I1)
end Go.Proofs.YtkbncdcphohmiaaGreatDoor
