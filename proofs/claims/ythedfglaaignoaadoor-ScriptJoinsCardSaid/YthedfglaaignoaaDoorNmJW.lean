/- ScriptJoins: the walk. -/
import Derived.Test.YthedfglaaignoaaDoorNmU
import Derived.Test.YthedfglaaignoaaDoorNmOp
set_option linter.unusedSimpArgs false
set_option linter.unusedVariables false
namespace Go.Proofs.YthedfglaaignoaaDoor
open Go.RowKit Go.Shelf
set_option maxRecDepth 100000
set_option maxHeartbeats 1000000
theorem Nm.vowel_any (b : ByteArray) (y : UInt8) (u : Nm.T) (h : b.data.toList = y :: u) (w : World) : Calls Tryd.prog 27 #[.string b] w fun e w' => e = .returned (.bool (Nm.vow.contains y)) ∧ w = w' := by
  have hs : 0 < b.size := by rw [Lib.size_eq, h]; simp
  have h0 : b[0]'hs = y := Nm.str_at h 0 hs rfl
  have h1 : (0 : Int) < (b.size : Int) := by omega
  have hd : decide ((0 : Int) < (b.size : Int)) = true := decide_eq_true h1
  have key : ∀ y : UInt8, Nm.vow.contains y = true → y = 97 ∨ y = 105 ∨ y = 117 ∨ y = 101 ∨ y = 111 := fun y hy => by simpa [Nm.vow] using hy
  clear h
  cases hv : Nm.vow.contains y with
  | true =>
    rcases key y hv with rfl | rfl | rfl | rfl | rfl
    all_goals
      clear hv key
      go_enter Tryd.func27, Tryd.ntmps27
      go_wp2
      go_ret
      exact ⟨rfl, rfl⟩
  | false =>
    have n1 : ((y.toNat : Int) == 97) = false := by
      have : y.toNat ≠ 97 := fun e => by rw [show y = 97 from UInt8.toNat_inj.1 e] at hv; cases hv
      simp; omega
    have n2 : ((y.toNat : Int) == 105) = false := by
      have : y.toNat ≠ 105 := fun e => by rw [show y = 105 from UInt8.toNat_inj.1 e] at hv; cases hv
      simp; omega
    have n3 : ((y.toNat : Int) == 117) = false := by
      have : y.toNat ≠ 117 := fun e => by rw [show y = 117 from UInt8.toNat_inj.1 e] at hv; cases hv
      simp; omega
    have n4 : ((y.toNat : Int) == 101) = false := by
      have : y.toNat ≠ 101 := fun e => by rw [show y = 101 from UInt8.toNat_inj.1 e] at hv; cases hv
      simp; omega
    have n5 : ((y.toNat : Int) == 111) = false := by
      have : y.toNat ≠ 111 := fun e => by rw [show y = 111 from UInt8.toNat_inj.1 e] at hv; cases hv
      simp; omega
    have m1 : ¬ ((y.toNat : Int) = 97) := by simpa using n1
    have m2 : ¬ ((y.toNat : Int) = 105) := by simpa using n2
    have m3 : ¬ ((y.toNat : Int) = 117) := by simpa using n3
    have m4 : ¬ ((y.toNat : Int) = 101) := by simpa using n4
    have m5 : ¬ ((y.toNat : Int) = 111) := by simpa using n5
    clear hv key
    go_enter Tryd.func27, Tryd.ntmps27
    go_wp2
    go_ret
    exact ⟨rfl, rfl⟩
theorem Nm.le_1 {s : Nat} {w : Nm.T} (h : Nm.isW s w = false) : Nm.le s w = 1 := by unfold Nm.le; rw [if_neg (by rw [h]; decide)]
theorem Nm.le_0 {s : Nat} {w : Nm.T} (h : Nm.isW s w = true) : Nm.le s w = 0 := by unfold Nm.le; rw [if_pos h]
theorem Nm.texts_hid' (A : Option Addr) (c : Nat) (B : Option Addr) (d : Nat) (ss : List ByteArray) (n : Nat) (hn : ss.length = n) (hl : n ≤ 100) (w : World) (ha : Strs w w.heap.size A ss) (hb : Strs w w.heap.size B ss) :
    Calls Tryd.prog 24 #[.slice A n c, .slice B n d] w fun e w' => e = .returned (.bool true) ∧ Below w.heap.size w w' := by
  have := Nm.texts_any A c ss B d ss w ha hb (by unfold maxLen; omega) (by unfold maxLen; omega)
  rw [hn] at this
  simpa using this
theorem Nm.joins_walk (k : Int) (a b : ByteArray) (w : World) (hp : Nm.Pa w.heap.size w) (wi : (Go.Lit.int .i64 k).wf = true) (ha : a.size ≤ maxLen) (hb : b.size ≤ maxLen) :
    Calls Tryd.prog 5 #[.int .i64 k, .string a, .string b] w fun e w' => e = .returned (.bool true) ∧ Below w.heap.size w w' := by
  have HD : Hid (Calls Tryd.prog 11 #[] w fun e w' => e = .returned (.bool true) ∧ Below w.heap.size w w') := Lib.hid (Nm.head_any w hp)
  have SH := Lib.hid (Nm.short2 a b)
  cases hsh : (Nm.sh a && Nm.sh b) with
  | false =>
    rw [hsh] at SH
    clear hsh ha hb hp wi
    go_enter Tryd.func5, Tryd.ntmps5
    go_wp2_with fail
    refine HD.out.mono ?_
    rintro e w1 ⟨rfl, g1⟩
    go_wp2_with fail
    refine (SH.out w1).mono ?_
    rintro e w2 ⟨rfl, g2⟩
    have hb := Nm.Nb g1 g2
    clear g1 g2
    go_wp2
    go_ret
    exact ⟨rfl, hb⟩
  | true =>
  rw [hsh] at SH
  rw [Bool.and_eq_true] at hsh
  have h200a : a.size ≤ 200 := of_decide_eq_true hsh.1
  have h200b : b.size ≤ 200 := of_decide_eq_true hsh.2
  clear hsh wi
  by_cases hab : Nm.isW (Nm.sc k) a.data.toList = true ∧ Nm.isW (Nm.sc k) b.data.toList = true
  · obtain ⟨hwa, hwb⟩ := hab
    have L1 := Lib.hid (fun v (hv : Below w.heap.size w v) => Nm.letters_ok k a v hwa ha (hp.bt hv).tb)
    have L2 := Lib.hid (fun v (hv : Below w.heap.size w v) => Nm.letters_ok k b v hwb hb (hp.bt hv).tb)
    obtain ⟨_, pa, qa⟩ := Nm.isW_iff.1 hwa
    obtain ⟨_, pb, qb⟩ := Nm.isW_iff.1 hwb
    have LJ : (k = 4 → (Nm.ls (Nm.sc k) a.data.toList).getLast? = some [110] → ∀ y u, b.data.toList = y :: u → Nm.vow.contains y = true → False) → Hid (∀ v, Below w.heap.size w v → Calls Tryd.prog 14 #[.int .i64 k, .string (a ++ b)] v fun e w' => ∃ z ec, e = .returned (.tuple #[z, .int .i64 ec]) ∧
        ((Nm.ls (Nm.sc k) a.data.toList).length + (Nm.ls (Nm.sc k) b.data.toList).length ≤ 12 → ec = 0 ∧ OwnS w' v.heap.size z ((Nm.ls (Nm.sc k) a.data.toList).map Nm.bt ++ (Nm.ls (Nm.sc k) b.data.toList).map Nm.bt)) ∧ (12 < (Nm.ls (Nm.sc k) a.data.toList).length + (Nm.ls (Nm.sc k) b.data.toList).length → ec = 1) ∧ Below v.heap.size v w') := fun hv4 => Lib.hid (fun v hv => by
      have hr := Nm.ls_joins hwa hwb (fun h4 => hv4 (by unfold Nm.sc at h4; split at h4 <;> omega))
      have hab : (a ++ b).data.toList = a.data.toList ++ b.data.toList := by simp
      have hsz : (a ++ b).size ≤ maxLen := by rw [ByteArray.size_append]; unfold maxLen; omega
      by_cases h12 : (Nm.ls (Nm.sc k) a.data.toList).length + (Nm.ls (Nm.sc k) b.data.toList).length ≤ 12
      · have h3 := Nm.letters_ok k (a ++ b) v (by rw [hab]; exact Nm.isW_of hr (by rw [List.length_append]; omega) (by rw [List.length_append]; exact h12)) hsz (hp.bt hv).tb
        rw [hab, Nm.ls_of hr, List.map_append] at h3
        refine h3.mono ?_
        rintro e w' ⟨z, rfl, o, g⟩
        exact ⟨z, 0, rfl, fun _ => ⟨rfl, o⟩, fun h => absurd h12 (by omega), g⟩
      · have h3 := Nm.letters_bad k (a ++ b) v (by
          rw [hab]
          cases hh : Nm.isW (Nm.sc k) (a.data.toList ++ b.data.toList) with
          | false => rfl
          | true =>
            have := (Nm.isW_iff.1 hh).2.2
            rw [Nm.ls_of hr, List.length_append] at this
            exact absurd this h12) hsz (hp.bt hv).tb
        refine h3.mono ?_
        rintro e w' ⟨rfl, g⟩
        exact ⟨_, 1, rfl, fun h => absurd h h12, fun _ => rfl, g⟩)
    have hbn : ∃ y u, b.data.toList = y :: u := by
      cases hh : b.data.toList with
      | nil => exact absurd hh (Nm.isW_ne hwb)
      | cons y u => exact ⟨y, u, rfl⟩
    obtain ⟨y, u, hyu⟩ := hbn
    have V1 := Lib.hid (fun v => Nm.vowel_any b y u hyu v)
    have hlast : ∃ lz, (Nm.ls (Nm.sc k) a.data.toList).getLast? = some lz ∧ ((Nm.ls (Nm.sc k) a.data.toList).map Nm.bt).getD ((Nm.ls (Nm.sc k) a.data.toList).length - 1) ByteArray.empty = Nm.bt lz := by
      refine ⟨(Nm.ls (Nm.sc k) a.data.toList).getLast (List.length_pos_iff.1 (by omega)), (by first | exact List.getLast?_eq_some_getLast _ | exact List.getLast?_eq_getLast _ _), ?_⟩
      rw [List.getD_eq_getElem?_getD, List.getElem?_map, List.getElem?_eq_getElem (by omega), List.getLast_eq_getElem]
      rfl
    obtain ⟨lz, hlz, hgz⟩ := hlast
    rw [hlz] at LJ
    obtain ⟨n2, hn2⟩ : ∃ n, (Nm.ls (Nm.sc k) b.data.toList).length = n := ⟨_, rfl⟩
    obtain ⟨m, hm⟩ : ∃ m, (Nm.ls (Nm.sc k) a.data.toList).length = m + 1 := ⟨(Nm.ls (Nm.sc k) a.data.toList).length - 1, by omega⟩
    rw [hm] at LJ hgz pa qa
    rw [hn2] at LJ pb qb
    rw [Nat.add_sub_cancel] at hgz
    have hx1 : ((Nm.ls (Nm.sc k) a.data.toList).map Nm.bt).length = m + 1 := by rw [List.length_map]; exact hm
    have hx2 : ((Nm.ls (Nm.sc k) b.data.toList).map Nm.bt).length = n2 := by rw [List.length_map]; exact hn2
    obtain ⟨x, hx⟩ : ∃ x, (Nm.ls (Nm.sc k) a.data.toList).map Nm.bt = x := ⟨_, rfl⟩
    obtain ⟨yy, hy⟩ : ∃ x, (Nm.ls (Nm.sc k) b.data.toList).map Nm.bt = x := ⟨_, rfl⟩
    rw [hx] at L1 LJ hx1 hgz
    rw [hy] at L2 LJ hx2
    have HX := Lib.hid (And.intro hx1 hx2)
    obtain ⟨z, hz⟩ : ∃ z, Nm.bt lz = z := ⟨_, rfl⟩
    have hzl : lz = [110] ↔ z = ⟨#[110]⟩ := by
      rw [← hz]
      constructor
      · rintro rfl; rfl
      · intro h
        have := congrArg (fun b : ByteArray => b.data.toList) h
        rwa [Nm.bt_list] at this
    rw [hz] at hgz
    have HZ := Lib.hid hgz
    have q1 : Nm.vow.contains y = true ∨ Nm.vow.contains y = false := by cases Nm.vow.contains y <;> simp
    have LQ : (k ≠ 4 ∨ z ≠ ⟨#[110]⟩ ∨ Nm.vow.contains y = false) → _ := fun h => LJ (fun hk hl => by
      intro y' u' he hv
      rw [hyu] at he
      obtain ⟨rfl, rfl⟩ := List.cons.inj he
      have hz' := hzl.1 (by simpa using hl)
      rcases h with h | h | h
      · exact h hk
      · exact h hz'
      · rw [hv] at h; cases h)
    have HLQ := Lib.hid LQ
    obtain ⟨vb, hvb⟩ : ∃ vb, Nm.vow.contains y = vb := ⟨_, rfl⟩
    rw [hvb] at V1 HLQ
    clear LJ LQ hzl q1 hz hgz hx hy hx1 hx2 hm hn2 hlz hyu hwa hwb hp ha hb hvb
    have H1 := Lib.hid (And.intro pb qb)
    obtain ⟨p2, q2⟩ := And.intro pb qb
    have d1 : decide ((m : Int) + 1 < 1) = false := decide_eq_false (by omega)
    have d2 : decide ((n2 : Int) < 1) = false := decide_eq_false (by omega)
    go_enter Tryd.func5, Tryd.ntmps5
    go_wp2_with fail
    refine HD.out.mono ?_
    rintro e w1 ⟨rfl, g1⟩
    go_wp2_with fail
    refine (SH.out w1).mono ?_
    rintro e w2 ⟨rfl, g2⟩
    have hb2 := Lib.hid (Nm.Nb g1 g2)
    clear g1 g2 SH
    go_wp2_with fail
    refine (L1.out w2 hb2.out).mono ?_
    rintro e w3 ⟨v3, rfl, o3, g3⟩
    obtain ⟨A, c, rfl, s3, _, _⟩ := o3.form
    rw [HX.out.1] at o3 ⊢
    have hb3 := Lib.hid (Nm.Nb hb2.out g3)
    have S3 := Lib.hid s3
    have O3 := Lib.hid o3
    clear g3 o3 s3 hb2 L1
    go_wp2_with fail
    refine (L2.out w3 hb3.out).mono ?_
    rintro e w4 ⟨v4, rfl, o4, g4⟩
    obtain ⟨B, d, rfl, s4, _, _⟩ := o4.form
    rw [HX.out.2] at o4 ⊢
    have hb4 := Lib.hid (Nm.Nb hb3.out g4)
    obtain ⟨ad, rfl, had, hcell⟩ := Nm.sbt S3.out g4 m (by rw [HX.out.1]; omega)
    rw [HZ.out] at hcell
    have OX := Lib.hid (own_below O3.out g4)
    have OY := Lib.hid o4
    clear g4 o4 s4 hb3 L2 S3 O3
    by_cases hk : k = 4
    · subst hk
      by_cases hzn : z = ⟨#[110]⟩
      · subst hzn
        cases vb with
        | true =>
          clear HLQ
          go_wp2_with fail
          refine (V1.out w4).mono ?_
          rintro e w5 ⟨rfl, rfl⟩
          go_wp2
          go_ret
          exact ⟨rfl, hb4.out⟩
        | false =>
          have LK := Lib.hid (HLQ.out (.inr (.inr rfl))).out
          clear HLQ
          go_wp2_with fail
          refine (V1.out w4).mono ?_
          rintro e w4' ⟨rfl, rfl⟩
          clear V1

          go_wp2_with fail
          refine (LK.out w4 hb4.out).mono ?_
          rintro e w5 ⟨v5, e5, rfl, he5, he6, g5⟩
          have hb5 := Lib.hid (Nm.Nb hb4.out g5)
          by_cases h12 : 12 < m + 1 + n2
          · have hd1 : decide ((12 : Int) < (m : Int) + 1 + (n2 : Int)) = true := decide_eq_true (by omega)
            obtain rfl := he6 h12
            clear g5 he5 he6 LK
            go_wp2
            go_ret
            exact ⟨rfl, hb5.out⟩
          · have hd1 : decide ((12 : Int) < (m : Int) + 1 + (n2 : Int)) = false := decide_eq_false (by omega)
            obtain ⟨rfl, o5⟩ := he5 (by omega)
            obtain ⟨A5, c5, rfl, s5, _, _⟩ := o5.form
            rw [List.length_append, HX.out.1, HX.out.2]
            have OX5 := own_below OX.out g5
            have OY5 := Lib.hid (own_below OY.out g5)
            have gz := Nm.al w5 (.cells #[] 9)
            have oz := own_zero w5 w5.heap.size (Nat.le_refl _)
            have OXz := own_below OX5 gz
            have S5 := Lib.hid s5
            have GZ := Lib.hid gz
            have hl1 : ([] : List ByteArray).length + x.length ≤ 1000000 := by rw [HX.out.1]; simp; omega
            have hl2 : x.length + yy.length ≤ 1000000 := by rw [HX.out.1, HX.out.2]; omega
            have TX := Lib.hid (fun A c v (ha : Strs v v.heap.size A5 (x ++ yy)) (hb : Strs v v.heap.size A (x ++ yy)) => Nm.texts_hid' A5 c5 A c (x ++ yy) (m + 1 + n2) (by rw [List.length_append, HX.out.1, HX.out.2]) (by omega) v ha hb)
            clear g5 he5 he6 gz OX5 s5 o5 LK
            go_wp2_with (first
              | (at_builtin
                 refine list_append2 ?hw (.tmp 90) (.tmp 91) ?ho w5.heap.size _ [] ?hs oz _ _ x ?hx OXz hl1 GZ.out.size ?_
                 case hw => simp [Region.wanted, yielded]
                 case ho => rfl
                 case hs => rfl
                 case hx => rfl
                 intro v6 w6 o6 g6
                 rw [List.nil_append] at o6
                 have G6 := Lib.hid (GZ.out.trans g6)
                 have OY6 := own_below OY5.out G6.out)
              | (at_builtin
                 refine list_append2 ?hw (.tmp 92) (.tmp 93) ?ho w5.heap.size v6 x ?hs o6 _ _ yy ?hx OY6 hl2 G6.out.size ?_
                 case hw => simp [Region.wanted, yielded]
                 case ho => rfl
                 case hs => rfl
                 case hx => rfl
                 intro v7 w7 o7 g7)
              | fail)
            have G7 := Lib.hid (G6.out.trans g7)
            obtain ⟨A7, c7, rfl, s7, _, _⟩ := o7.form
            rw [List.length_append, HX.out.1, HX.out.2]
            have S57 := Nm.sbt S5.out G7.out
            refine (TX.out A7 c7 w7 S57 s7).mono ?_
            rintro e w8 ⟨rfl, g8⟩
            have hb8 := Lib.hid (Nm.Nb hb5.out (Nm.Nb G7.out g8))
            clear o7 g7 s7 g8 S57 TX
            go_wp2
            go_ret
            exact ⟨rfl, hb8.out⟩
      · have hne := Nm.eqB_false hzn
        have hne2 : ¬ (z.toList = [110]) := fun e => hzn (by
          rw [Lib.toList_data] at e
          exact ByteArray.ext (Array.toList_inj.1 e))
        have LK := Lib.hid (HLQ.out (.inr (.inl hzn))).out
        clear HLQ V1

        go_wp2_with fail
        refine (LK.out w4 hb4.out).mono ?_
        rintro e w5 ⟨v5, e5, rfl, he5, he6, g5⟩
        have hb5 := Lib.hid (Nm.Nb hb4.out g5)
        by_cases h12 : 12 < m + 1 + n2
        · have hd1 : decide ((12 : Int) < (m : Int) + 1 + (n2 : Int)) = true := decide_eq_true (by omega)
          obtain rfl := he6 h12
          clear g5 he5 he6 LK
          go_wp2
          go_ret
          exact ⟨rfl, hb5.out⟩
        · have hd1 : decide ((12 : Int) < (m : Int) + 1 + (n2 : Int)) = false := decide_eq_false (by omega)
          obtain ⟨rfl, o5⟩ := he5 (by omega)
          obtain ⟨A5, c5, rfl, s5, _, _⟩ := o5.form
          rw [List.length_append, HX.out.1, HX.out.2]
          have OX5 := own_below OX.out g5
          have OY5 := Lib.hid (own_below OY.out g5)
          have gz := Nm.al w5 (.cells #[] 9)
          have oz := own_zero w5 w5.heap.size (Nat.le_refl _)
          have OXz := own_below OX5 gz
          have S5 := Lib.hid s5
          have GZ := Lib.hid gz
          have hl1 : ([] : List ByteArray).length + x.length ≤ 1000000 := by rw [HX.out.1]; simp; omega
          have hl2 : x.length + yy.length ≤ 1000000 := by rw [HX.out.1, HX.out.2]; omega
          have TX := Lib.hid (fun A c v (ha : Strs v v.heap.size A5 (x ++ yy)) (hb : Strs v v.heap.size A (x ++ yy)) => Nm.texts_hid' A5 c5 A c (x ++ yy) (m + 1 + n2) (by rw [List.length_append, HX.out.1, HX.out.2]) (by omega) v ha hb)
          clear g5 he5 he6 gz OX5 s5 o5 LK
          go_wp2_with (first
            | (at_builtin
               refine list_append2 ?hw (.tmp 90) (.tmp 91) ?ho w5.heap.size _ [] ?hs oz _ _ x ?hx OXz hl1 GZ.out.size ?_
               case hw => simp [Region.wanted, yielded]
               case ho => rfl
               case hs => rfl
               case hx => rfl
               intro v6 w6 o6 g6
               rw [List.nil_append] at o6
               have G6 := Lib.hid (GZ.out.trans g6)
               have OY6 := own_below OY5.out G6.out)
            | (at_builtin
               refine list_append2 ?hw (.tmp 92) (.tmp 93) ?ho w5.heap.size v6 x ?hs o6 _ _ yy ?hx OY6 hl2 G6.out.size ?_
               case hw => simp [Region.wanted, yielded]
               case ho => rfl
               case hs => rfl
               case hx => rfl
               intro v7 w7 o7 g7)
            | fail)
          have G7 := Lib.hid (G6.out.trans g7)
          obtain ⟨A7, c7, rfl, s7, _, _⟩ := o7.form
          rw [List.length_append, HX.out.1, HX.out.2]
          have S57 := Nm.sbt S5.out G7.out
          refine (TX.out A7 c7 w7 S57 s7).mono ?_
          rintro e w8 ⟨rfl, g8⟩
          have hb8 := Lib.hid (Nm.Nb hb5.out (Nm.Nb G7.out g8))
          clear o7 g7 s7 g8 S57 TX
          go_wp2
          go_ret
          exact ⟨rfl, hb8.out⟩
    · have hk2 : (k == 4) = false := by simpa using hk
      have LK := Lib.hid (HLQ.out (.inl hk)).out
      clear HLQ V1

      go_wp2_with fail
      refine (LK.out w4 hb4.out).mono ?_
      rintro e w5 ⟨v5, e5, rfl, he5, he6, g5⟩
      have hb5 := Lib.hid (Nm.Nb hb4.out g5)
      by_cases h12 : 12 < m + 1 + n2
      · have hd1 : decide ((12 : Int) < (m : Int) + 1 + (n2 : Int)) = true := decide_eq_true (by omega)
        obtain rfl := he6 h12
        clear g5 he5 he6 LK
        go_wp2
        go_ret
        exact ⟨rfl, hb5.out⟩
      · have hd1 : decide ((12 : Int) < (m : Int) + 1 + (n2 : Int)) = false := decide_eq_false (by omega)
        obtain ⟨rfl, o5⟩ := he5 (by omega)
        obtain ⟨A5, c5, rfl, s5, _, _⟩ := o5.form
        rw [List.length_append, HX.out.1, HX.out.2]
        have OX5 := own_below OX.out g5
        have OY5 := Lib.hid (own_below OY.out g5)
        have gz := Nm.al w5 (.cells #[] 9)
        have oz := own_zero w5 w5.heap.size (Nat.le_refl _)
        have OXz := own_below OX5 gz
        have S5 := Lib.hid s5
        have GZ := Lib.hid gz
        have hl1 : ([] : List ByteArray).length + x.length ≤ 1000000 := by rw [HX.out.1]; simp; omega
        have hl2 : x.length + yy.length ≤ 1000000 := by rw [HX.out.1, HX.out.2]; omega
        have TX := Lib.hid (fun A c v (ha : Strs v v.heap.size A5 (x ++ yy)) (hb : Strs v v.heap.size A (x ++ yy)) => Nm.texts_hid' A5 c5 A c (x ++ yy) (m + 1 + n2) (by rw [List.length_append, HX.out.1, HX.out.2]) (by omega) v ha hb)
        clear g5 he5 he6 gz OX5 s5 o5 LK
        go_wp2_with (first
          | (at_builtin
             refine list_append2 ?hw (.tmp 90) (.tmp 91) ?ho w5.heap.size _ [] ?hs oz _ _ x ?hx OXz hl1 GZ.out.size ?_
             case hw => simp [Region.wanted, yielded]
             case ho => rfl
             case hs => rfl
             case hx => rfl
             intro v6 w6 o6 g6
             rw [List.nil_append] at o6
             have G6 := Lib.hid (GZ.out.trans g6)
             have OY6 := own_below OY5.out G6.out)
          | (at_builtin
             refine list_append2 ?hw (.tmp 92) (.tmp 93) ?ho w5.heap.size v6 x ?hs o6 _ _ yy ?hx OY6 hl2 G6.out.size ?_
             case hw => simp [Region.wanted, yielded]
             case ho => rfl
             case hs => rfl
             case hx => rfl
             intro v7 w7 o7 g7)
          | fail)
        have G7 := Lib.hid (G6.out.trans g7)
        obtain ⟨A7, c7, rfl, s7, _, _⟩ := o7.form
        rw [List.length_append, HX.out.1, HX.out.2]
        have S57 := Nm.sbt S5.out G7.out
        refine (TX.out A7 c7 w7 S57 s7).mono ?_
        rintro e w8 ⟨rfl, g8⟩
        have hb8 := Lib.hid (Nm.Nb hb5.out (Nm.Nb G7.out g8))
        clear o7 g7 s7 g8 S57 TX
        go_wp2
        go_ret
        exact ⟨rfl, hb8.out⟩
  · have L1 := Lib.hid (fun v (hv : Below w.heap.size w v) => Nm.letters_uni k a v ha (hp.bt hv).tb)
    have L2 := Lib.hid (fun v (hv : Below w.heap.size w v) => Nm.letters_uni k b v hb (hp.bt hv).tb)
    have he : Nm.le (Nm.sc k) a.data.toList = 1 ∨ (Nm.le (Nm.sc k) a.data.toList = 0 ∧ Nm.le (Nm.sc k) b.data.toList = 1) := by
      cases h1 : Nm.isW (Nm.sc k) a.data.toList with
      | false => exact .inl (Nm.le_1 h1)
      | true =>
        cases h2 : Nm.isW (Nm.sc k) b.data.toList with
        | false => exact .inr ⟨Nm.le_0 h1, Nm.le_1 h2⟩
        | true => exact absurd ⟨h1, h2⟩ hab
    generalize Nm.le (Nm.sc k) a.data.toList = e1 at *
    generalize Nm.le (Nm.sc k) b.data.toList = e2 at *
    generalize (Nm.LL (Nm.sc k) a.data.toList) = l1 at *
    generalize (Nm.LL (Nm.sc k) b.data.toList) = l2 at *
    obtain ⟨n1, hn1⟩ : ∃ n, l1.length = n := ⟨_, rfl⟩
    obtain ⟨n2, hn2⟩ : ∃ n, l2.length = n := ⟨_, rfl⟩
    rw [hn1] at L1
    rw [hn2] at L2
    clear hab ha hb hp hn1 hn2
    rcases he with rfl | ⟨rfl, rfl⟩
    all_goals
      go_enter Tryd.func5, Tryd.ntmps5
      go_wp2_with fail
      refine HD.out.mono ?_
      rintro e w1 ⟨rfl, g1⟩
      go_wp2_with fail
      refine (SH.out w1).mono ?_
      rintro e w2 ⟨rfl, g2⟩
      have hb2 := Lib.hid (Nm.Nb g1 g2)
      clear g1 g2
      go_wp2_with fail
      refine (L1.out w2 hb2.out).mono ?_
      rintro e w3 ⟨A, c, rfl, _, g3⟩
      have hb3 := Lib.hid (Nm.Nb hb2.out g3)
      clear g3
      go_wp2_with fail
      refine (L2.out w3 hb3.out).mono ?_
      rintro e w4 ⟨B, d, rfl, _, g4⟩
      have hb4 := Lib.hid (Nm.Nb hb3.out g4)
      clear g4
      go_wp2
      go_ret
      exact ⟨rfl, hb4.out⟩
end Go.Proofs.YthedfglaaignoaaDoor
