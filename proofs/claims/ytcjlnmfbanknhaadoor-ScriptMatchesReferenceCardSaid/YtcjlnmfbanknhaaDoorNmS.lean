/- Layer 9: the statements' own short, and the reference's Same. -/
import Derived.Test.YtcjlnmfbanknhaaDoorNmHd
set_option linter.unusedSimpArgs false
set_option linter.unusedVariables false
namespace Go.Proofs.YtcjlnmfbanknhaaDoor
open Go.RowKit Go.Shelf
set_option maxRecDepth 100000
set_option maxHeartbeats 1000000
def Nm.sh (x : ByteArray) : Bool := decide (x.size ≤ 200)
theorem Nm.short_any (ss : List ByteArray) (A : Option Addr) (c : Nat) (w : World) (hs : Strs w w.heap.size A ss) (hl : ss.length ≤ 10) :
    Calls Tryd.prog 6 #[.slice A ss.length c] w fun e w' => e = .returned (.bool (ss.all Nm.sh)) ∧ Below w.heap.size w w' := by
  have HS := Lib.hid hs
  obtain ⟨n, hn⟩ : ∃ n, ss.length = n := ⟨_, rfl⟩
  rw [hn] at hl ⊢
  have HN := Lib.hid hn
  clear hs hn
  go_enter Tryd.func6, Tryd.ntmps6
  go_wp2
  go_loop [3] (fun s3 => ∃ i : Nat, i ≤ n ∧ s3 = .int .i64 (i : Int) ∧ Hid ((ss.take i).all Nm.sh = true)) (fun s3 => n - (intOf s3).toNat)
  case atStart => exact ⟨0, by omega, rfl, Lib.hid rfl⟩
  case round =>
    obtain ⟨i, hi, rfl, HE⟩ := hrel
    by_cases hlt : i < n
    · obtain ⟨ad, rfl, had, hx⟩ := HS.out i (by rw [HN.out]; exact hlt)
      have htk := Nm.getD_take (ss := ss) (i := i) (by rw [HN.out]; exact hlt)
      obtain ⟨x, hxx⟩ : ∃ x, ss.getD i ByteArray.empty = x := ⟨_, rfl⟩
      rw [hxx] at hx htk
      have hall : (ss.take (i + 1)).all Nm.sh = Nm.sh x := by rw [htk, List.all_append, HE.out]; simp
      have HALL := Lib.hid hall
      clear htk hxx hall
      by_cases h200 : x.size ≤ 200
      · have hd : decide ((200 : Int) < (x.size : Int)) = false := decide_eq_false (by omega)
        have HX : Hid (Nm.sh x = true) := Lib.hid (decide_eq_true h200)
        clear h200
        go_wp2
        exact ⟨⟨i + 1, by omega, by go_num, Lib.hid (by rw [HALL.out, HX.out])⟩, by simp [intOf]; omega⟩
      · have hd : decide ((200 : Int) < (x.size : Int)) = true := decide_eq_true (by omega)
        have HF : Hid (ss.all Nm.sh = false) := Lib.hid (by
          have h1 := HALL.out
          rw [show Nm.sh x = false from decide_eq_false h200] at h1
          rw [← List.take_append_drop (i + 1) ss, List.all_append, h1]
          rfl)
        clear h200
        go_wp2
        go_ret
        exact ⟨congrArg (fun z => Ending.returned (.bool z)) HF.out.symm, Below.refl _ _⟩
    · obtain rfl : i = n := by omega
      have HF : Hid (ss.all Nm.sh = true) := Lib.hid (by
        have h1 := HE.out
        rwa [List.take_of_length_le (by rw [HN.out]; exact Nat.le_refl _)] at h1)
      go_wp2
      go_ret
      exact ⟨congrArg (fun z => Ending.returned (.bool z)) HF.out.symm, Below.refl _ _⟩
theorem Nm.short1 (x : ByteArray) (v : World) : Calls Tryd.prog 6 #[.slice (some ⟨v.heap.size, 0, none⟩) 1 1] (v.alloc (.cells #[.string x] 9)) fun e w' => e = .returned (.bool (Nm.sh x)) ∧ Below v.heap.size v w' := by
  refine (Nm.short_any [x] (some ⟨v.heap.size, 0, none⟩) 1 _ (Nm.strs_new v 9 [x]) (by simp)).mono ?_
  rintro e w' ⟨rfl, hb⟩
  exact ⟨by simp, Nm.Nb (Nm.al v _) hb⟩
theorem Nm.short2 (x y : ByteArray) (v : World) : Calls Tryd.prog 6 #[.slice (some ⟨v.heap.size, 0, none⟩) 2 2] (v.alloc (.cells #[.string x, .string y] 9)) fun e w' => e = .returned (.bool (Nm.sh x && Nm.sh y)) ∧ Below v.heap.size v w' := by
  refine (Nm.short_any [x, y] (some ⟨v.heap.size, 0, none⟩) 2 _ (Nm.strs_new v 9 [x, y]) (by simp)).mono ?_
  rintro e w' ⟨rfl, hb⟩
  exact ⟨by simp, Nm.Nb (Nm.al v _) hb⟩

theorem Nm.same_any (k : Int) (A : Option Addr) (c : Nat) (ss : List ByteArray) (l : Int) (B : Option Addr) (d : Nat) (tt : List ByteArray) (w : World) (ha : Strs w w.heap.size A ss) (hb : Strs w w.heap.size B tt) (hl : ss.length ≤ maxLen) (hl2 : tt.length ≤ maxLen) :
    Calls Tryd.prog 18 #[.agg #[.int .i64 k, .slice A ss.length c], .agg #[.int .i64 l, .slice B tt.length d]] w fun e w' => e = .returned (.bool (decide (k = l) && decide (ss = tt))) ∧ Below w.heap.size w w' := by
  have hB1 := Nm.al w (.cells #[.int .i64 k, .slice A ss.length c] 24)
  have hB := Nm.Nb hB1 (Nm.al _ (.cells #[.int .i64 l, .slice B tt.length d] 24))
  have TX := Lib.hid (Nm.texts_any A c ss B d tt _ (Nm.sbt ha hB) (Nm.sbt hb hB) hl hl2)
  have HB := Lib.hid hB
  obtain ⟨r, hr⟩ : ∃ r, decide (ss = tt) = r := ⟨_, rfl⟩
  obtain ⟨n, hn⟩ : ∃ n, ss.length = n := ⟨_, rfl⟩
  obtain ⟨m, hm⟩ : ∃ n, tt.length = n := ⟨_, rfl⟩
  rw [hr, hn, hm] at TX
  rw [hn, hm] at HB
  rw [hr, hn, hm]
  clear ha hb hl hl2 hr hn hm hB hB1
  by_cases hk : k = l
  · subst hk
    go_enter Tryd.func18, Tryd.ntmps18
    go_wp2_with fail
    refine TX.out.mono ?_
    rintro e w1 ⟨rfl, g1⟩
    go_wp2
    go_ret
    exact ⟨by simp, Nm.Nb HB.out g1⟩
  · have hf : (k == l) = false := by simpa using hk
    have hf2 : decide (k = l) = false := decide_eq_false hk
    rw [hf2]
    clear TX
    go_enter Tryd.func18, Tryd.ntmps18
    go_wp2
    go_ret
    exact ⟨by simp, HB.out⟩
end Go.Proofs.YtcjlnmfbanknhaaDoor
