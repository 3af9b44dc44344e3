/- ScriptFolds: the walk. -/
import Derived.Test.YthedfglaaignoaaDoorNmU
set_option linter.unusedSimpArgs false
set_option linter.unusedVariables false
namespace Go.Proofs.YthedfglaaignoaaDoor
open Go.RowKit Go.Shelf
set_option maxRecDepth 100000
set_option maxHeartbeats 1000000
theorem Nm.fw_head (w : World) (hp : Nm.Pa w.heap.size w) : Hid (Calls Tryd.prog 11 #[] w fun e w' => e = .returned (.bool true) ∧ Below w.heap.size w w') := Lib.hid (Nm.head_any w hp)
def Nm.fd (x : ByteArray) : ByteArray := Nm.bt (x.data.toList.map Nm.low)
theorem Nm.fd_list (x : ByteArray) : (Nm.fd x).data.toList = x.data.toList.map Nm.low := Nm.bt_list _
theorem Nm.fd_size (x : ByteArray) : (Nm.fd x).size = x.size := by rw [Lib.size_eq, Nm.fd_list, List.length_map, Lib.size_eq]
theorem Nm.fd_fd (x : ByteArray) : Nm.fd (Nm.fd x) = Nm.fd x := by unfold Nm.fd; rw [Nm.bt_list, Nm.low_twice]
theorem Nm.ext {x y : ByteArray} (h : x.data.toList = y.data.toList) : x = y := ByteArray.ext (Array.toList_inj.1 h)
theorem Nm.take_cap (t : ByteArray) (i : Nat) (h : i < t.size) : (t.data.toList.take (i + 1)).any Nm.isCap = ((t.data.toList.take i).any Nm.isCap || Nm.isCap (t[i]'h)) := by
  rw [List.take_add_one, Lib.data_getElem? t i h]
  simp
theorem Nm.sc_two {k : Int} (h : Nm.sc k = 2) : k = 2 := by
  unfold Nm.sc at h
  split at h
  · omega
  · cases h
theorem Nm.getD_memF {l : List ByteArray} {i : Nat} (h : i < l.length) : l.getD i ByteArray.empty ∈ l := by
  rw [List.getD_eq_getElem?_getD, List.getElem?_eq_getElem h]
  exact List.getElem_mem h
theorem Nm.getD_fd {l : List ByteArray} {i : Nat} (h : i < l.length) : (l.map Nm.fd).getD i ByteArray.empty = Nm.fd (l.getD i ByteArray.empty) := by
  rw [List.getD_eq_getElem?_getD, List.getElem?_map, List.getElem?_eq_getElem h, List.getD_eq_getElem?_getD, List.getElem?_eq_getElem h]
  rfl
theorem Nm.folds_walk (k : Int) (a : ByteArray) (w : World) (hp : Nm.Pa w.heap.size w) (wi : (Go.Lit.int .i64 k).wf = true) (ha : a.size ≤ maxLen) :
    Calls Tryd.prog 6 #[.int .i64 k, .string a] w fun e w' => e = .returned (.bool true) ∧ Below w.heap.size w w' := by
  have HD := Nm.fw_head w hp
  have SH := Lib.hid (Nm.short1 a)
  cases hsh : Nm.sh a with
  | false =>
    rw [hsh] at SH
    clear hsh ha hp wi
    go_enter Tryd.func6, Tryd.ntmps6
    go_wp2_with fail
    refine HD.out.mono ?_
    rintro e w1 ⟨rfl, g1⟩
    go_wp2_with fail
    refine (SH.out w1).mono ?_
    rintro e w2 ⟨rfl, g2⟩
    have hb := Nm.Nb g1 g2
    clear g1 g2
    go_wp2
    go_ret
    exact ⟨rfl, hb⟩
  | true =>
  rw [hsh] at SH
  have h200 : a.size ≤ 200 := of_decide_eq_true hsh
  clear hsh wi
  cases hw : Nm.isW (Nm.sc k) a.data.toList with
  | false =>
    have F1 := Lib.hid (fun v (hv : Below w.heap.size w v) => Nm.fold_bad k a v hw ha (hp.bt hv).tb)
    have L1 := Lib.hid (fun v (hv : Below w.heap.size w v) => Nm.letters_bad k a v hw ha (hp.bt hv).tb)
    clear hw ha hp
    go_enter Tryd.func6, Tryd.ntmps6
    go_wp2_with fail
    refine HD.out.mono ?_
    rintro e w1 ⟨rfl, g1⟩
    go_wp2_with fail
    refine (SH.out w1).mono ?_
    rintro e w2 ⟨rfl, g2⟩
    have hb := Lib.hid (Nm.Nb g1 g2)
    clear g1 g2
    go_wp2_with fail
    refine (F1.out w2 hb.out).mono ?_
    rintro e w3 ⟨rfl, g3⟩
    have hb3 := Lib.hid (Nm.Nb hb.out g3)
    clear g3
    go_wp2_with fail
    refine (L1.out w3 hb3.out).mono ?_
    rintro e w4 ⟨rfl, g4⟩
    have hb4 := Lib.hid (Nm.Nb hb3.out g4)
    clear g4
    go_wp2
    go_ret
    exact ⟨rfl, hb4.out⟩
  | true =>
    obtain ⟨hw2, hls, hcap⟩ := Nm.fold_word hw
    have hfa : (Nm.fd a).data.toList = a.data.toList.map Nm.low := Nm.fd_list a
    have hfs := Nm.fd_size a
    have hff := Nm.fd_fd a
    have F1 : Hid (∀ v, Below w.heap.size w v → Calls Tryd.prog 16 #[.int .i64 k, .string a] v fun e w' => e = .returned (.tuple #[.string (Nm.fd a), .int .i64 0]) ∧ Below v.heap.size v w') := Lib.hid (fun v (hv : Below w.heap.size w v) => Nm.fold_ok k a v hw ha (hp.bt hv).tb)
    have L1 := Lib.hid (fun v (hv : Below w.heap.size w v) => Nm.letters_ok k a v hw ha (hp.bt hv).tb)
    have F2 : Hid (∀ v, Below w.heap.size w v → Calls Tryd.prog 16 #[.int .i64 k, .string (Nm.fd a)] v fun e w' => e = .returned (.tuple #[.string (Nm.fd a), .int .i64 0]) ∧ Below v.heap.size v w') := Lib.hid (fun v hv => by
      have := Nm.fold_ok k (Nm.fd a) v (by rw [hfa]; exact hw2) (by rw [hfs]; exact ha) (hp.bt hv).tb
      rwa [show Nm.bt ((Nm.fd a).data.toList.map Nm.low) = Nm.fd a from hff] at this)
    have L2 : Hid (∀ v, Below w.heap.size w v → Calls Tryd.prog 14 #[.int .i64 k, .string (Nm.fd a)] v fun e w' => ∃ z, e = .returned (.tuple #[z, .int .i64 0]) ∧ OwnS w' v.heap.size z (((Nm.ls (Nm.sc k) a.data.toList).map Nm.bt).map Nm.fd) ∧ Below v.heap.size v w') := Lib.hid (fun v hv => by
      have := Nm.letters_ok k (Nm.fd a) v (by rw [hfa]; exact hw2) (by rw [hfs]; exact ha) (hp.bt hv).tb
      rw [hfa, hls, List.map_map] at this
      rw [List.map_map]
      rwa [show (Nm.bt ∘ List.map Nm.low) = (Nm.fd ∘ Nm.bt) from funext fun l => by simp [Nm.fd, Nm.bt_list]] at this)
    have F3 : Hid (∀ x, x ∈ (Nm.ls (Nm.sc k) a.data.toList).map Nm.bt → ∀ v, Below w.heap.size w v → Calls Tryd.prog 16 #[.int .i64 k, .string x] v fun e w' => e = .returned (.tuple #[.string (Nm.fd x), .int .i64 0]) ∧ Below v.heap.size v w') := Lib.hid (fun x hx v hv => by
      obtain ⟨l, hl, rfl⟩ := List.mem_map.1 hx
      obtain ⟨e1, e2⟩ := Nm.ls_own hl
      have hsz : (Nm.bt l).size ≤ maxLen := by
        have h24 := Nm.isW_len e1
        have : (Nm.bt l).size = l.length := by rw [Lib.size_eq, Nm.bt_list]
        unfold maxLen
        omega
      exact Nm.fold_ok k (Nm.bt l) v (by rw [Nm.bt_list]; exact e1) hsz (hp.bt hv).tb)
    have hk2 : a.data.toList.any Nm.isCap = true → k = 2 := fun h => Nm.sc_two (hcap h)
    have hne : a.data.toList.any Nm.isCap = true → Nm.fd a ≠ a := fun h e => (Nm.low_map_ne a.data.toList).2 h (by rw [← hfa, e])
    have heq : a.data.toList.any Nm.isCap = false → Nm.fd a = a := fun h => by
      refine Nm.ext ?_
      rw [hfa]
      by_cases he : a.data.toList.map Nm.low = a.data.toList
      · exact he
      · rw [(Nm.low_map_ne a.data.toList).1 he] at h
        cases h
    obtain ⟨q, hq⟩ : ∃ q, a.data.toList.any Nm.isCap = q := ⟨_, rfl⟩
    rw [hq] at hk2 hne heq
    have HQ := Lib.hid hq
    have HE := Lib.hid (And.intro hk2 (And.intro hne heq))
    obtain ⟨s, hs⟩ : ∃ s, Nm.fd a = s := ⟨_, rfl⟩
    obtain ⟨ll, hll⟩ : ∃ ss, (Nm.ls (Nm.sc k) a.data.toList).map Nm.bt = ss := ⟨_, rfl⟩
    rw [hs] at F1 F2 L2 HE
    rw [hll] at L1 L2 F3
    obtain ⟨n, hn⟩ : ∃ n, ll.length = n := ⟨_, rfl⟩
    have hn2 : (ll.map Nm.fd).length = n := by rw [List.length_map]; exact hn
    have h12 : n ≤ 12 := by
      have := (Nm.isW_iff.1 hw).2.2
      rw [← hn, ← hll, List.length_map]
      exact this
    have HN := Lib.hid (And.intro hn hn2)
    have HG := Lib.hid (fun i (h : i < ll.length) => Nm.getD_fd (l := ll) (i := i) h)
    obtain ⟨l2, hl2⟩ : ∃ l2, ll.map Nm.fd = l2 := ⟨_, rfl⟩
    rw [hl2] at L2 HN HG
    clear hk2 hne heq hq hs hll hn hn2 hl2 hw hw2 hls hcap hfa hfs hff ha hp
    go_enter Tryd.func6, Tryd.ntmps6
    go_wp2_with fail
    refine HD.out.mono ?_
    rintro e w1 ⟨rfl, g1⟩
    go_wp2_with fail
    refine (SH.out w1).mono ?_
    rintro e w2 ⟨rfl, g2⟩
    have hb := Lib.hid (Nm.Nb g1 g2)
    clear g1 g2
    go_wp2_with fail
    refine (F1.out w2 hb.out).mono ?_
    rintro e w3 ⟨rfl, g3⟩
    have hb3 := Lib.hid (Nm.Nb hb.out g3)
    clear g3 hb F1
    go_wp2_with fail
    refine (L1.out w3 hb3.out).mono ?_
    rintro e w4 ⟨v4, rfl, o4, g4⟩
    obtain ⟨A, c, rfl, s4, _, _⟩ := o4.form
    rw [HN.out.1]
    have hb4 := Lib.hid (Nm.Nb hb3.out g4)
    have S4 := Lib.hid s4
    clear g4 o4 s4 hb3 L1
    go_wp2_with fail
    refine (F2.out w4 hb4.out).mono ?_
    rintro e w5 ⟨rfl, g5⟩
    have hb5 := Lib.hid (Nm.Nb hb4.out g5)
    have S5 := Lib.hid (Nm.sbt S4.out g5)
    clear g5 hb4 S4 F2
    go_wp2_with fail
    refine (L2.out w5 hb5.out).mono ?_
    rintro e w6 ⟨v6, rfl, o6, g6⟩
    obtain ⟨A6, c6, rfl, s6, _, _⟩ := o6.form
    rw [HN.out.2]
    have hb6 := Lib.hid (Nm.Nb hb5.out g6)
    have S6 := Lib.hid (Nm.sbt S5.out g6)
    have T6 := Lib.hid s6
    clear g6 hb5 S5 L2 o6 s6
    go_wp2
    go_loopw [14] (fun s14 wr => ∃ i : Nat, i ≤ n ∧ s14 = .int .i64 (i : Int) ∧ Hid (Below w6.heap.size w6 wr)) (fun s14 _ => n - (intOf s14).toNat)
    case atStart => exact ⟨0, by omega, rfl, Lib.hid (Below.refl _ _)⟩
    case round =>
      obtain ⟨i, hi, rfl, HW⟩ := hrel
      have hbr := Lib.hid (Nm.Nb hb6.out HW.out)
      by_cases hlt : i < n
      · obtain ⟨ad, rfl, had, hx⟩ := S6.out i (by rw [HN.out.1]; exact hlt)
        obtain ⟨bd, rfl, hbd, hy⟩ := T6.out i (by rw [HN.out.2]; exact hlt)
        rw [HG.out i (by rw [HN.out.1]; exact hlt)] at hy
        have hm := Nm.getD_memF (l := ll) (i := i) (by rw [HN.out.1]; exact hlt)
        obtain ⟨x, hxx⟩ : ∃ x, ll.getD i ByteArray.empty = x := ⟨_, rfl⟩
        rw [hxx] at hx hm hy
        have L3 := Lib.hid (F3.out x hm)
        have hx1 := (HW.out.cell (p := ad.add i) (by rw [add_block]; exact had)).trans hx
        obtain ⟨y, hyy⟩ : ∃ y, Nm.fd x = y := ⟨_, rfl⟩
        rw [hyy] at hy L3
        have HY := Lib.hid hy
        clear hm hxx hx hy hyy
        go_wp2_with fail
        refine (L3.out _ hbr.out).mono ?_
        rintro e w7 ⟨rfl, g7⟩
        have HW7 := Lib.hid (Nm.Nb HW.out g7)
        have hy1 := (HW7.out.cell (p := bd.add i) (by rw [add_block]; exact hbd)).trans HY.out
        clear g7 hx1 L3
        go_wp2
        exact ⟨⟨i + 1, by omega, by go_num, HW7⟩, by simp [intOf]; omega⟩
      · obtain rfl : i = n := by omega
        clear S6 T6 hb6 HW F3 HG
        go_wp2
        go_loop [17, 18] (fun s17 s18 => ∃ (j : Nat) (r : Bool), j ≤ a.size ∧ s18 = .int .i64 (j : Int) ∧ s17 = .bool r ∧ Hid ((a.data.toList.take j).any Nm.isCap = r)) (fun s17 s18 => a.size - (intOf s18).toNat)
        case atStart => exact ⟨0, false, by omega, rfl, rfl, Lib.hid rfl⟩
        case round =>
          obtain ⟨j, r, hj, rfl, rfl, HJ⟩ := hrel
          by_cases hlt : j < a.size
          · have hit' : (j : Int) < (a.size : Int) := by omega
            have hi00 : (0 : Int) ≤ (j : Int) := by omega
            have hT := Nm.take_cap a j hlt
            rw [HJ.out] at hT
            obtain ⟨x, hx⟩ : ∃ x : UInt8, a[j]'hlt = x := ⟨_, rfl⟩
            rw [hx] at hT
            cases r with
            | true =>
              have HT := Lib.hid hT
              clear hT
              go_wp2
              exact ⟨⟨j + 1, true, by omega, by go_num, rfl, Lib.hid (by rw [HT.out]; rfl)⟩, by simp [intOf]; omega⟩
            | false =>
              by_cases h1 : 65 ≤ x.toNat
              · have f1 : decide ((65 : Int) ≤ (x.toNat : Int)) = true := decide_eq_true (by omega)
                by_cases h2 : x.toNat ≤ 90
                · have f2 : decide ((x.toNat : Int) ≤ 90) = true := decide_eq_true (by omega)
                  have HT : Hid ((a.data.toList.take (j + 1)).any Nm.isCap = true) := Lib.hid (by rw [hT, Nm.isCap, decide_eq_true h1, decide_eq_true h2]; rfl)
                  clear hT
                  go_wp2
                  exact ⟨⟨j + 1, true, by omega, by go_num, rfl, HT⟩, by simp [intOf]; omega⟩
                · have f2 : decide ((x.toNat : Int) ≤ 90) = false := decide_eq_false (by omega)
                  have HT : Hid ((a.data.toList.take (j + 1)).any Nm.isCap = false) := Lib.hid (by rw [hT, Nm.isCap, decide_eq_false h2, Bool.and_false]; rfl)
                  clear hT
                  go_wp2
                  exact ⟨⟨j + 1, false, by omega, by go_num, rfl, HT⟩, by simp [intOf]; omega⟩
              · have f1 : decide ((65 : Int) ≤ (x.toNat : Int)) = false := decide_eq_false (by omega)
                have HT : Hid ((a.data.toList.take (j + 1)).any Nm.isCap = false) := Lib.hid (by rw [hT, Nm.isCap, decide_eq_false h1, Bool.false_and]; rfl)
                clear hT
                go_wp2
                exact ⟨⟨j + 1, false, by omega, by go_num, rfl, HT⟩, by simp [intOf]; omega⟩
          · obtain rfl : j = a.size := by omega
            obtain rfl : r = q := by
              have h1 := HJ.out
              rw [List.take_of_length_le (by rw [← Lib.size_eq]; exact Nat.le_refl _), HQ.out] at h1
              exact h1.symm
            obtain ⟨hk2, hne, heq⟩ := HE.out
            clear HE HQ HJ
            cases r with
            | true =>
              obtain rfl := hk2 rfl
              have hb' := Nm.eqB_false (hne rfl)
              clear hk2 hne heq
              go_wp2
              go_ret
              exact ⟨rfl, hbr.out⟩
            | false =>
              obtain rfl := heq rfl
              clear hk2 hne heq
              go_wp2
              go_ret
              exact ⟨rfl, hbr.out⟩
end Go.Proofs.YthedfglaaignoaaDoor
