/- ScriptLetters: the statements' own sum, and the walk. -/
import Derived.Test.YthedfglaaignoaaDoorNmS
import Derived.BigQuiet
set_option linter.unusedSimpArgs false
set_option linter.unusedVariables false
namespace Go.Proofs.YthedfglaaignoaaDoor
open Go.RowKit Go.Shelf
set_option maxRecDepth 100000
set_option maxHeartbeats 1000000
def Nm.cat (ss : List ByteArray) : Nm.T := (ss.map fun x => x.data.toList).flatten
theorem Nm.cat_snoc (ss : List ByteArray) (x : ByteArray) : Nm.cat (ss ++ [x]) = Nm.cat ss ++ x.data.toList := by simp [Nm.cat]
theorem Nm.app_list (x y : ByteArray) : (x ++ y).data.toList = x.data.toList ++ y.data.toList := by simp
theorem Nm.getD_mem {l : List ByteArray} {i : Nat} (h : i < l.length) : l.getD i ByteArray.empty ∈ l := by
  rw [List.getD_eq_getElem?_getD, List.getElem?_eq_getElem h]
  exact List.getElem_mem h
theorem Nm.sum_any (ss : List ByteArray) (A : Option Addr) (c : Nat) (w : World) (hs : Strs w w.heap.size A ss) (hl : ss.length ≤ 100) (hz : ∀ x ∈ ss, x.size ≤ 200) :
    Calls Tryd.prog 26 #[.slice A ss.length c] w fun e w' => e = .returned (.string (Nm.bt (Nm.cat ss))) ∧ Below w.heap.size w w' := by
  have HS := Lib.hid hs
  obtain ⟨n, hn⟩ : ∃ n, ss.length = n := ⟨_, rfl⟩
  rw [hn] at hl ⊢
  have HN := Lib.hid hn
  have HZ := Lib.hid hz
  clear hs hn hz
  go_enter Tryd.func26, Tryd.ntmps26
  go_wp2
  go_loop [3, 4] (fun s3 s4 => ∃ (i : Nat) (x : ByteArray), i ≤ n ∧ s4 = .int .i64 (i : Int) ∧ s3 = .string x ∧ x.size ≤ 200 * i ∧ Hid (x.data.toList = Nm.cat (ss.take i))) (fun s3 s4 => n - (intOf s4).toNat)
  case atStart => exact ⟨0, ByteArray.empty, by omega, rfl, rfl, by simp, Lib.hid rfl⟩
  case round =>
    obtain ⟨i, x, hi, rfl, rfl, hx2, HE⟩ := hrel
    by_cases hlt : i < n
    · have hy2 := HZ.out _ (Nm.getD_mem (i := i) (by rw [HN.out]; exact hlt))
      obtain ⟨ad, rfl, had, hx⟩ := HS.out i (by rw [HN.out]; exact hlt)
      have HT := Lib.hid (Nm.getD_take (ss := ss) (i := i) (by rw [HN.out]; exact hlt))
      obtain ⟨y, hyy⟩ : ∃ y, ss.getD i ByteArray.empty = y := ⟨_, rfl⟩
      rw [hyy] at hx HT hy2
      clear hyy
      have hadd := ByteArray.size_append (a := x) (b := y)
      go_wp2
      exact ⟨⟨i + 1, _, by omega, by go_num, rfl, by rw [hadd]; omega, Lib.hid (by rw [HT.out, Nm.cat_snoc, Nm.app_list, HE.out])⟩, by simp [intOf]; omega⟩
    · obtain rfl : i = n := by omega
      have HF : Hid (x = Nm.bt (Nm.cat ss)) := Lib.hid (by
        have h1 := HE.out
        rw [List.take_of_length_le (by rw [HN.out]; exact Nat.le_refl _)] at h1
        exact ByteArray.ext (Array.toList_inj.1 (by rw [h1, Nm.bt_list])))
      go_wp2
      go_ret
      exact ⟨congrArg (fun z => Ending.returned (.string z)) HF.out, Below.refl _ _⟩
theorem Nm.cat_ls {s : Nat} {word : ByteArray} (h : Nm.isW s word.data.toList = true) : Nm.bt (Nm.cat ((Nm.ls s word.data.toList).map Nm.bt)) = word := by
  refine ByteArray.ext (Array.toList_inj.1 ?_)
  rw [Nm.bt_list, Nm.cat, List.map_map, show ((fun x : ByteArray => x.data.toList) ∘ Nm.bt) = id from funext fun l => Nm.bt_list l, List.map_id, Nm.ls_sum h]
theorem Nm.hd_none (w : World) (hp : Nm.Pa w.heap.size w) : Hid (Calls Tryd.prog 11 #[] w fun e w' => e = .returned (.bool true) ∧ Below w.heap.size w w') := Lib.hid (Nm.head_any w hp)
theorem Nm.letters_walk (k : Int) (a : ByteArray) (w : World) (hp : Nm.Pa w.heap.size w) (wi : (Go.Lit.int .i64 k).wf = true) (ha : a.size ≤ maxLen) :
    Calls Tryd.prog 4 #[.int .i64 k, .string a] w fun e w' => e = .returned (.bool true) ∧ Below w.heap.size w w' := by
  have HD := Nm.hd_none w hp
  have SH := Lib.hid (Nm.short1 a)
  cases hsh : Nm.sh a with
  | false =>
    rw [hsh] at SH
    clear hsh ha hp wi
    go_enter Tryd.func4, Tryd.ntmps4
    go_wp2_with fail
    refine HD.out.mono ?_
    rintro e w1 ⟨rfl, g1⟩
    go_wp2_with fail
    refine (SH.out w1).mono ?_
    rintro e w2 ⟨rfl, g2⟩
    have hb := Nm.Nb g1 g2
    clear g1 g2
    go_wp2
    go_ret
    exact ⟨rfl, hb⟩
  | true =>
  rw [hsh] at SH
  clear hsh wi
  cases hw : Nm.isW (Nm.sc k) a.data.toList with
  | false =>
    have L1 := Lib.hid (fun v (hv : Below w.heap.size w v) => Nm.letters_bad k a v hw ha (hp.bt hv).tb)
    clear hw ha hp
    go_enter Tryd.func4, Tryd.ntmps4
    go_wp2_with fail
    refine HD.out.mono ?_
    rintro e w1 ⟨rfl, g1⟩
    go_wp2_with fail
    refine (SH.out w1).mono ?_
    rintro e w2 ⟨rfl, g2⟩
    have hb := Lib.hid (Nm.Nb g1 g2)
    clear g1 g2
    go_wp2_with fail
    refine (L1.out w2 hb.out).mono ?_
    rintro e w3 ⟨rfl, g3⟩
    have hb3 := Lib.hid (Nm.Nb hb.out g3)
    clear g3
    go_wp2
    go_ret
    exact ⟨rfl, hb3.out⟩
  | true =>
    have L1 := Lib.hid (fun v (hv : Below w.heap.size w v) => Nm.letters_ok k a v hw ha (hp.bt hv).tb)
    have h12 := (Nm.isW_iff.1 hw).2
    have L2 : Hid (∀ x, x ∈ (Nm.ls (Nm.sc k) a.data.toList).map Nm.bt → ∀ v, Below w.heap.size w v → Calls Tryd.prog 14 #[.int .i64 k, .string x] v fun e w' => ∃ z, e = .returned (.tuple #[z, .int .i64 0]) ∧ OwnS w' v.heap.size z [x] ∧ Below v.heap.size v w') := Lib.hid (fun x hx v hv => by
      obtain ⟨l, hl, rfl⟩ := List.mem_map.1 hx
      obtain ⟨e1, e2⟩ := Nm.ls_own hl
      have hsz : (Nm.bt l).size ≤ maxLen := by
        have h24 := Nm.isW_len e1
        have : (Nm.bt l).size = l.length := by rw [Lib.size_eq, Nm.bt_list]
        unfold maxLen
        omega
      have := Nm.letters_ok k (Nm.bt l) v (by rw [Nm.bt_list]; exact e1) hsz (hp.bt hv).tb
      rw [Nm.bt_list, e2] at this
      exact this)
    have HC := Nm.cat_ls hw
    obtain ⟨n, hn⟩ : ∃ n, ((Nm.ls (Nm.sc k) a.data.toList).map Nm.bt).length = n := ⟨_, rfl⟩
    have hn2 : 1 ≤ n ∧ n ≤ 12 := by rw [List.length_map] at hn; omega
    obtain ⟨ss, hss⟩ : ∃ ss, (Nm.ls (Nm.sc k) a.data.toList).map Nm.bt = ss := ⟨_, rfl⟩
    have hz : ∀ x ∈ (Nm.ls (Nm.sc k) a.data.toList).map Nm.bt, x.size ≤ 200 := fun x hx => by
      obtain ⟨l, hl, rfl⟩ := List.mem_map.1 hx
      have h24 := Nm.isW_len (Nm.ls_own hl).1
      have : (Nm.bt l).size = l.length := by rw [Lib.size_eq, Nm.bt_list]
      omega
    rw [hss] at L1 L2 HC hn hz
    have SM := Lib.hid (fun (A : Option Addr) (c : Nat) v (h : Strs v v.heap.size A ss) => Nm.sum_any ss A c v h (by omega) hz)
    rw [HC, hn] at SM
    have HN := Lib.hid hn
    obtain ⟨n1, n12⟩ := hn2
    clear hss h12 HC hw ha hp hn hz
    go_enter Tryd.func4, Tryd.ntmps4
    go_wp2_with fail
    refine HD.out.mono ?_
    rintro e w1 ⟨rfl, g1⟩
    go_wp2_with fail
    refine (SH.out w1).mono ?_
    rintro e w2 ⟨rfl, g2⟩
    have hb := Lib.hid (Nm.Nb g1 g2)
    clear g1 g2
    go_wp2_with fail
    refine (L1.out w2 hb.out).mono ?_
    rintro e w3 ⟨v3, rfl, o3, g3⟩
    obtain ⟨A, c, rfl, s3, _, _⟩ := o3.form
    rw [HN.out]
    have hb3 := Lib.hid (Nm.Nb hb.out g3)
    have S3 := Lib.hid s3
    have d1 : decide ((n : Int) < 1) = false := decide_eq_false (by omega)
    have d2 : decide ((12 : Int) < (n : Int)) = false := decide_eq_false (by omega)
    clear g3 o3 s3 hb L1
    go_wp2_with fail
    refine (SM.out A c w3 S3.out).mono ?_
    rintro e w4 ⟨rfl, g4⟩
    have hb4 := Lib.hid (Nm.Nb hb3.out g4)
    have S4 := Lib.hid (Nm.sbt S3.out g4)
    clear g4 hb3 S3 SM d1 d2
    go_wp2
    go_loopw [8] (fun s8 wr => ∃ i : Nat, i ≤ n ∧ s8 = .int .i64 (i : Int) ∧ Hid (Below w4.heap.size w4 wr)) (fun s8 _ => n - (intOf s8).toNat)
    case atStart => exact ⟨0, by omega, rfl, Lib.hid (Below.refl _ _)⟩
    case round =>
      obtain ⟨i, hi, rfl, HW⟩ := hrel
      by_cases hlt : i < n
      · obtain ⟨ad, rfl, had, hx⟩ := S4.out i (by rw [HN.out]; exact hlt)
        have hm := Nm.getD_mem (l := ss) (i := i) (by rw [HN.out]; exact hlt)
        obtain ⟨x, hxx⟩ : ∃ x, ss.getD i ByteArray.empty = x := ⟨_, rfl⟩
        rw [hxx] at hx hm
        have L3 := Lib.hid (L2.out x hm)
        have hx1 := (HW.out.cell (p := ad.add i) (by rw [add_block]; exact had)).trans hx
        have hbr := Lib.hid (Nm.Nb hb4.out HW.out)
        have HX := Lib.hid hx
        clear hm hxx hx
        go_wp2_with fail
        refine (L3.out _ hbr.out).mono ?_
        rintro e w5 ⟨v5, rfl, o5, g5⟩
        obtain ⟨A5, c5, rfl, s5, _, _⟩ := o5.form
        obtain ⟨bd, rfl, hbd, hy⟩ := s5 0 (by simp)
        have HW5 := Lib.hid (Nm.Nb HW.out g5)
        have hx5 := (HW5.out.cell (p := ad.add i) (by rw [add_block]; exact had)).trans HX.out
        have hne : (x.toList == x.toList) = true := by simp
        clear o5 s5 g5 hx1 L3
        simp at hy
        rw [show bd.add 0 = bd from by simp [go_sem]] at hy
        go_wp2
        go_quiet (fail)
        go_wp2
        exact ⟨⟨i + 1, by omega, by go_num, Lib.hid (Nm.drewB HW5.out _)⟩, by simp [intOf]; omega⟩
      · obtain rfl : i = n := by omega
        have hbr := Lib.hid (Nm.Nb hb4.out HW.out)
        go_wp2
        go_ret
        exact ⟨rfl, hbr.out⟩
end Go.Proofs.YthedfglaaignoaaDoor
