/- ScriptCommon: the walk. -/
import Derived.Test.YthedfglaaignoaaDoorNmU
set_option linter.unusedSimpArgs false
set_option linter.unusedVariables false
namespace Go.Proofs.YthedfglaaignoaaDoor
open Go.RowKit Go.Shelf
set_option maxRecDepth 100000
set_option maxHeartbeats 1000000
theorem Nm.hd_none' (w : World) (hp : Nm.Pa w.heap.size w) : Hid (Calls Tryd.prog 11 #[] w fun e w' => e = .returned (.bool true) ∧ Below w.heap.size w w') := Lib.hid (Nm.head_any w hp)
theorem Nm.le_01 (s : Nat) (w : Nm.T) : (Nm.le s w = 0 ∧ Nm.isW s w = true) ∨ (Nm.le s w = 1 ∧ Nm.isW s w = false) := by
  unfold Nm.le
  cases h : Nm.isW s w <;> simp
theorem Nm.take_c (t : ByteArray) (i : Nat) (h : i < t.size) : (t.data.toList.take (i + 1)).contains 39 = ((t.data.toList.take i).contains 39 || (39 == t[i]'h)) := by
  rw [List.take_add_one, Lib.data_getElem? t i h]
  simp
  rfl
theorem Nm.texts_hid (A : Option Addr) (c : Nat) (B : Option Addr) (d : Nat) (ss tt : List ByteArray) (n m : Nat) (hn : ss.length = n) (hm : tt.length = m) (h : ss = tt) (hl : ss.length ≤ 12) (w : World) (ha : Strs w w.heap.size A ss) (hb : Strs w w.heap.size B tt) :
    Calls Tryd.prog 24 #[.slice A n c, .slice B m d] w fun e w' => e = .returned (.bool true) ∧ Below w.heap.size w w' := by
  have := Nm.texts_any A c ss B d tt w ha hb (by unfold maxLen; omega) (by rw [← h]; unfold maxLen; omega)
  rw [hn, hm] at this
  rwa [show decide (ss = tt) = true from decide_eq_true h] at this
theorem Nm.common_walk (a : ByteArray) (w : World) (hp : Nm.Pa w.heap.size w) (ha : a.size ≤ maxLen) :
    Calls Tryd.prog 10 #[.string a] w fun e w' => e = .returned (.bool true) ∧ Below w.heap.size w w' := by
  have HD := Nm.hd_none' w hp
  have SH := Lib.hid (Nm.short1 a)
  cases hsh : Nm.sh a with
  | false =>
    rw [hsh] at SH
    clear hsh ha hp
    go_enter Tryd.func10, Tryd.ntmps10
    go_wp2_with fail
    refine HD.out.mono ?_
    rintro e w1 ⟨rfl, g1⟩
    go_wp2_with fail
    refine (SH.out w1).mono ?_
    rintro e w2 ⟨rfl, g2⟩
    have hb := Nm.Nb g1 g2
    clear g1 g2
    go_wp2
    go_ret
    exact ⟨rfl, hb⟩
  | true =>
    rw [hsh] at SH
    have h200 : a.size ≤ 200 := of_decide_eq_true hsh
    have L1 := Lib.hid (fun v (hv : Below w.heap.size w v) => Nm.letters_uni 1 a v ha (hp.bt hv).tb)
    have L2 := Lib.hid (fun v (hv : Below w.heap.size w v) => Nm.letters_uni 2 a v ha (hp.bt hv).tb)
    have L3 := Lib.hid (fun v (hv : Below w.heap.size w v) => Nm.letters_uni 3 a v ha (hp.bt hv).tb)
    have L4 := Lib.hid (fun v (hv : Below w.heap.size w v) => Nm.letters_uni 4 a v ha (hp.bt hv).tb)
    rw [show Nm.sc 1 = 1 from rfl] at L1
    rw [show Nm.sc 2 = 2 from rfl] at L2
    rw [show Nm.sc 3 = 3 from rfl] at L3
    rw [show Nm.sc 4 = 4 from rfl] at L4
    have hlen := Lib.size_eq a
    have P12 : Nm.le 1 a.data.toList = 0 → Nm.le 2 a.data.toList = 0 ∧ Nm.LL 1 a.data.toList = Nm.LL 2 a.data.toList := fun h => by
      rcases Nm.le_01 1 a.data.toList with ⟨_, h1⟩ | ⟨h1, _⟩
      · obtain ⟨h2, h3⟩ := Nm.plain_cased h1
        unfold Nm.LL Nm.le
        rw [if_pos h2, if_pos h2, if_pos h1, h3]
        exact ⟨rfl, rfl⟩
      · omega
    have P31 : Nm.le 3 a.data.toList = 0 → a.data.toList.contains 39 = false → Nm.le 1 a.data.toList = 0 ∧ Nm.LL 1 a.data.toList = Nm.LL 3 a.data.toList := fun h hq => by
      rcases Nm.le_01 3 a.data.toList with ⟨_, h1⟩ | ⟨h1, _⟩
      · obtain ⟨h2, h3⟩ := Nm.abjad_plain h1 hq
        unfold Nm.LL Nm.le
        rw [if_pos h2, if_pos h2, if_pos h1, h3]
        exact ⟨rfl, rfl⟩
      · omega
    have P41 : Nm.le 4 a.data.toList = 0 → a.size ≤ 12 → Nm.le 1 a.data.toList = 0 := fun h hq => by
      rcases Nm.le_01 4 a.data.toList with ⟨_, h1⟩ | ⟨h1, _⟩
      · have h2 := Nm.syllab_plain h1 (by omega)
        unfold Nm.le
        rw [if_pos h2]
      · omega
    have R1 : Nm.le 1 a.data.toList = 0 ∨ Nm.le 1 a.data.toList = 1 := (Nm.le_01 1 a.data.toList).imp (·.1) (·.1)
    have R3 : Nm.le 3 a.data.toList = 0 ∨ Nm.le 3 a.data.toList = 1 := (Nm.le_01 3 a.data.toList).imp (·.1) (·.1)
    have R4 : Nm.le 4 a.data.toList = 0 ∨ Nm.le 4 a.data.toList = 1 := (Nm.le_01 4 a.data.toList).imp (·.1) (·.1)
    have B1 := Nm.LL_len 1 a.data.toList
    have B2 := Nm.LL_len 2 a.data.toList
    have B3 := Nm.LL_len 3 a.data.toList
    obtain ⟨q, hq⟩ : ∃ q, a.data.toList.contains 39 = q := ⟨_, rfl⟩
    rw [hq] at P31
    generalize Nm.le 1 a.data.toList = e1 at *
    generalize Nm.le 2 a.data.toList = e2 at *
    generalize Nm.le 3 a.data.toList = e3 at *
    generalize Nm.le 4 a.data.toList = e4 at *
    generalize Nm.LL 1 a.data.toList = l1 at *
    generalize Nm.LL 2 a.data.toList = l2 at *
    generalize Nm.LL 3 a.data.toList = l3 at *
    generalize Nm.LL 4 a.data.toList = l4 at *
    have HP := Lib.hid (And.intro P12 (And.intro P31 (And.intro P41 (And.intro R1 (And.intro R3 R4)))))
    obtain ⟨n1, hn1⟩ : ∃ n, l1.length = n := ⟨_, rfl⟩
    obtain ⟨n2, hn2⟩ : ∃ n, l2.length = n := ⟨_, rfl⟩
    obtain ⟨n3, hn3⟩ : ∃ n, l3.length = n := ⟨_, rfl⟩
    obtain ⟨n4, hn4⟩ : ∃ n, l4.length = n := ⟨_, rfl⟩
    have HN := Lib.hid (And.intro hn1 (And.intro hn2 hn3))
    have HQ := Lib.hid hq
    have HB := Lib.hid (And.intro B1 B3)
    rw [hn1] at L1
    rw [hn2] at L2
    rw [hn3] at L3
    rw [hn4] at L4
    clear hsh ha hp P12 P31 P41 R1 R3 R4 hq B1 B2 B3 hlen hn1 hn2 hn3 hn4
    go_enter Tryd.func10, Tryd.ntmps10
    go_wp2_with fail
    refine HD.out.mono ?_
    rintro e w1 ⟨rfl, g1⟩
    go_wp2_with fail
    refine (SH.out w1).mono ?_
    rintro e w2 ⟨rfl, g2⟩
    have hb2 := Lib.hid (Nm.Nb g1 g2)
    clear g1 g2 SH
    go_wp2_with fail
    refine (L1.out w2 hb2.out).mono ?_
    rintro e w3 ⟨A1, c1, rfl, s1, g3⟩
    have hb3 := Lib.hid (Nm.Nb hb2.out g3)
    have S1 := Lib.hid s1
    clear s1 g3 hb2 L1
    go_wp2_with fail
    refine (L2.out w3 hb3.out).mono ?_
    rintro e w4 ⟨A2, c2, rfl, s2, g4⟩
    have hb4 := Lib.hid (Nm.Nb hb3.out g4)
    have S14 := Lib.hid (Nm.sbt S1.out g4)
    have S24 := Lib.hid s2
    clear s2 g4 hb3 L2 S1
    go_wp2_with fail
    refine (L3.out w4 hb4.out).mono ?_
    rintro e w5 ⟨A3, c3, rfl, s3, g5⟩
    have hb5 := Lib.hid (Nm.Nb hb4.out g5)
    have S15 := Lib.hid (Nm.sbt S14.out g5)
    have S25 := Lib.hid (Nm.sbt S24.out g5)
    have S35 := Lib.hid s3
    clear s3 g5 hb4 L3 S14 S24
    go_wp2_with fail
    refine (L4.out w5 hb5.out).mono ?_
    rintro e w6 ⟨A4, c4, rfl, s4, g6⟩
    have hb6 := Lib.hid (Nm.Nb hb5.out g6)
    have S16 := Lib.hid (Nm.sbt S15.out g6)
    have S26 := Lib.hid (Nm.sbt S25.out g6)
    have S36 := Lib.hid (Nm.sbt S35.out g6)
    clear s4 g6 hb5 L4 S15 S25 S35
    go_wp2
    go_loop [12, 13] (fun s12 s13 => ∃ (i : Nat) (r : Bool), i ≤ a.size ∧ s13 = .int .i64 (i : Int) ∧ s12 = .bool r ∧ Hid ((a.data.toList.take i).contains 39 = r)) (fun s12 s13 => a.size - (intOf s13).toNat)
    case atStart => exact ⟨0, false, by omega, rfl, rfl, Lib.hid rfl⟩
    case round =>
      obtain ⟨i, r, hi, rfl, rfl, HE⟩ := hrel
      by_cases hlt : i < a.size
      · have hit' : (i : Int) < (a.size : Int) := by omega
        have hi00 : (0 : Int) ≤ (i : Int) := by omega
        have hT := Nm.take_c a i hlt
        rw [HE.out] at hT
        obtain ⟨x, hx⟩ : ∃ x : UInt8, a[i]'hlt = x := ⟨_, rfl⟩
        rw [hx] at hT
        cases r with
        | true =>
          have HT := Lib.hid hT
          clear hT
          go_wp2
          exact ⟨⟨i + 1, true, by omega, by go_num, rfl, Lib.hid (by rw [HT.out]; rfl)⟩, by simp [intOf]; omega⟩
        | false =>
          by_cases h39 : x = 39
          · subst h39
            have HT := Lib.hid hT
            clear hT
            go_wp2
            exact ⟨⟨i + 1, true, by omega, by go_num, rfl, Lib.hid (by rw [HT.out]; rfl)⟩, by simp [intOf]; omega⟩
          · have hne : ((x.toNat : Int) == 39) = false := by
              have : x.toNat ≠ 39 := fun e => h39 (UInt8.toNat_inj.1 e)
              simp; omega
            have hne2 : decide ((x.toNat : Int) = 39) = false := by simpa using hne
            have HT : Hid ((a.data.toList.take (i + 1)).contains 39 = false) := Lib.hid (by
              rw [hT]
              simpa using fun e => h39 e.symm)
            clear hT
            go_wp2
            exact ⟨⟨i + 1, false, by omega, by go_num, rfl, HT⟩, by simp [intOf]; omega⟩
      · obtain rfl : i = a.size := by omega
        obtain rfl : r = q := by
          have h1 := HE.out
          rw [List.take_of_length_le (by rw [← Lib.size_eq]; exact Nat.le_refl _), HQ.out] at h1
          exact h1.symm
        have T12 := Lib.hid (fun (h : l1 = l2) v (hv : Below w6.heap.size w6 v) => Nm.texts_hid A1 c1 A2 c2 l1 l2 n1 n2 HN.out.1 HN.out.2.1 h HB.out.1 v (Nm.sbt S16.out hv) (Nm.sbt S26.out hv))
        have T13 := Lib.hid (fun (h : l1 = l3) v (hv : Below w6.heap.size w6 v) => Nm.texts_hid A1 c1 A3 c3 l1 l3 n1 n3 HN.out.1 HN.out.2.2 h HB.out.1 v (Nm.sbt S16.out hv) (Nm.sbt S36.out hv))
        obtain ⟨P12, P31, P41, R1, R3, R4⟩ := HP.out
        clear HP S16 S26 S36 HE HQ HN HB
        rcases R1 with rfl | rfl
        · obtain ⟨rfl, rfl⟩ := P12 rfl
          have U12 := Lib.hid (fun v hv => T12.out rfl v hv)
          clear P12 P41 T12
          go_wp2_with fail
          refine (U12.out w6 (Below.refl _ _)).mono ?_
          rintro e w7 ⟨rfl, g7⟩
          have hb7 := Lib.hid (Nm.Nb hb6.out g7)
          have G7 := Lib.hid g7
          clear g7 U12
          rcases R3 with rfl | rfl
          · cases r with
            | true =>
              rcases R4 with rfl | rfl
              · by_cases h12 : 12 < a.size
                · have hd : decide ((12 : Int) < (a.size : Int)) = true := decide_eq_true (by omega)
                  go_wp2
                  go_ret
                  exact ⟨rfl, hb7.out⟩
                · have hd : decide ((12 : Int) < (a.size : Int)) = false := decide_eq_false (by omega)
                  go_wp2
                  go_ret
                  exact ⟨rfl, hb7.out⟩
              · go_wp2
                go_ret
                exact ⟨rfl, hb7.out⟩
            | false =>
              have U13 := Lib.hid (fun v hv => T13.out (P31 rfl rfl).2 v hv)
              clear P31 T13
              go_wp2_with fail
              refine (U13.out w7 G7.out).mono ?_
              rintro e w8 ⟨rfl, g8⟩
              have hb8 := Lib.hid (Nm.Nb hb7.out g8)
              clear g8 U13
              rcases R4 with rfl | rfl
              · by_cases h12 : 12 < a.size
                · have hd : decide ((12 : Int) < (a.size : Int)) = true := decide_eq_true (by omega)
                  go_wp2
                  go_ret
                  exact ⟨rfl, hb8.out⟩
                · have hd : decide ((12 : Int) < (a.size : Int)) = false := decide_eq_false (by omega)
                  go_wp2
                  go_ret
                  exact ⟨rfl, hb8.out⟩
              · go_wp2
                go_ret
                exact ⟨rfl, hb8.out⟩
          · clear P31
            rcases R4 with rfl | rfl
            · by_cases h12 : 12 < a.size
              · have hd : decide ((12 : Int) < (a.size : Int)) = true := decide_eq_true (by omega)
                go_wp2
                go_ret
                exact ⟨rfl, hb7.out⟩
              · have hd : decide ((12 : Int) < (a.size : Int)) = false := decide_eq_false (by omega)
                go_wp2
                go_ret
                exact ⟨rfl, hb7.out⟩
            · go_wp2
              go_ret
              exact ⟨rfl, hb7.out⟩
        · clear P12 T12 T13
          rcases R3 with rfl | rfl
          · cases r with
            | false => exact absurd (P31 rfl rfl).1 (by omega)
            | true =>
              clear P31
              rcases R4 with rfl | rfl
              · by_cases h12 : 12 < a.size
                · have hd : decide ((12 : Int) < (a.size : Int)) = true := decide_eq_true (by omega)
                  clear P41
                  go_wp2
                  go_ret
                  exact ⟨rfl, hb6.out⟩
                · exact absurd (P41 rfl (by omega)) (by omega)
              · clear P41
                go_wp2
                go_ret
                exact ⟨rfl, hb6.out⟩
          · clear P31
            rcases R4 with rfl | rfl
            · by_cases h12 : 12 < a.size
              · have hd : decide ((12 : Int) < (a.size : Int)) = true := decide_eq_true (by omega)
                clear P41
                go_wp2
                go_ret
                exact ⟨rfl, hb6.out⟩
              · exact absurd (P41 rfl (by omega)) (by omega)
            · clear P41
              go_wp2
              go_ret
              exact ⟨rfl, hb6.out⟩
end Go.Proofs.YthedfglaaignoaaDoor
