/- Layer 9, the reference: Valid. -/
import Derived.Test.YtcjlnmfbanknhaaDoorNmRe
set_option linter.unusedSimpArgs false
set_option linter.unusedVariables false
namespace Go.Proofs.YtcjlnmfbanknhaaDoor
open Go.RowKit Go.Shelf
set_option maxRecDepth 100000
set_option maxHeartbeats 2000000
theorem Nm.getD_memF' {l : List ByteArray} {i : Nat} (h : i < l.length) : l.getD i ByteArray.empty ∈ l := by
  rw [List.getD_eq_getElem?_getD, List.getElem?_eq_getElem h]
  exact List.getElem_mem h
def Nm.wd (s : Nat) (x : ByteArray) : Bool := Nm.isW s x.data.toList
theorem Nm.okT_all (k : Int) (ss : List ByteArray) : Nm.okT k ss = (ss.all (Nm.wd (Nm.sc k)) && (decide (1 ≤ ss.length) && decide (ss.length ≤ 6))) := by
  unfold Nm.okT Nm.okN Nm.wl Nm.wd
  rw [List.all_map, List.length_map]
  rfl
theorem Nm.rvalid_any (k : Int) (A : Option Addr) (c : Nat) (ss : List ByteArray) (n : Nat) (hn : ss.length = n) (hl : n ≤ 20) (hm : ∀ x ∈ ss, x.size ≤ 100) (w : World) (hs : Strs w w.heap.size A ss) :
    Calls Tryd.prog 16 #[.agg #[.int .i64 k, .slice A n c]] w fun e w' => e = .returned (.bool (Nm.okT k ss)) ∧ Below w.heap.size w w' := by
  have hB := Nm.al w (.cells #[.int .i64 k, .slice A n c] 24)
  have HS := Lib.hid (Nm.sbt hs hB)
  have HB := Lib.hid hB
  have hz := heap_alloc_new w (.cells #[.int .i64 k, .slice A n c] 24)
  have z0 : (w.alloc (.cells #[.int .i64 k, .slice A n c] 24)).cell? ⟨w.heap.size, 0, none⟩ = some (.int .i64 k) := Nm.cell_h hz 0
  have z1 : (w.alloc (.cells #[.int .i64 k, .slice A n c] 24)).cell? ⟨w.heap.size, 1, none⟩ = some (.slice A n c) := Nm.cell_h hz 1
  have hlt0 : w.heap.size < (w.alloc (.cells #[.int .i64 k, .slice A n c] 24)).heap.size := by simp
  have HZ := Lib.hid (And.intro z0 (And.intro z1 hlt0))
  have HN := Lib.hid hn
  have WD := Lib.hid (fun x (hx : x.size ≤ 1000) v => Nm.word_any k x v hx)
  have HM := Lib.hid hm
  have OK := Lib.hid (Nm.okT_all k ss)
  rw [hn] at OK
  clear hs hn hB hz hm z0 z1 hlt0
  go_enter Tryd.func16, Tryd.ntmps16
  go_wp2
  generalize hVV : w.alloc (.cells #[.int .i64 k, .slice A n c] 24) = V at *
  go_loopw [3] (fun s3 wr => ∃ i : Nat, i ≤ n ∧ s3 = .int .i64 (i : Int) ∧ Hid ((ss.take i).all (Nm.wd (Nm.sc k)) = true) ∧ Hid (Below V.heap.size V wr)) (fun s3 _ => n - (intOf s3).toNat)
  case atStart => exact ⟨0, by omega, rfl, Lib.hid rfl, Lib.hid (Below.refl _ _)⟩
  case round =>
    obtain ⟨i, hi, rfl, HE, HW⟩ := hrel
    have x0 := (HW.out.cell (p := ⟨w.heap.size, 0, none⟩) HZ.out.2.2).trans HZ.out.1
    have x1 := (HW.out.cell (p := ⟨w.heap.size, 1, none⟩) HZ.out.2.2).trans HZ.out.2.1
    by_cases hlt : i < n
    · have hlt' : (i : Int) < (n : Int) := by omega
      have hi0 : (0 : Int) ≤ (i : Int) := by omega
      obtain ⟨ad, rfl, had, hx⟩ := HS.out i (by rw [HN.out]; exact hlt)
      have htk := Nm.getD_take (ss := ss) (i := i) (by rw [HN.out]; exact hlt)
      have hsz := HM.out _ (Nm.getD_memF' (l := ss) (i := i) (by rw [HN.out]; exact hlt))
      obtain ⟨x, hxx⟩ : ∃ x, ss.getD i ByteArray.empty = x := ⟨_, rfl⟩
      rw [hxx] at hx htk hsz
      have hx1 := (HW.out.cell (p := ad.add i) (by rw [add_block]; exact had)).trans hx
      have L1 := Lib.hid (WD.out x (by omega))
      have HALL : Hid ((ss.take (i + 1)).all (Nm.wd (Nm.sc k)) = Nm.wd (Nm.sc k) x) := Lib.hid (by rw [htk, List.all_append, HE.out]; simp)
      obtain ⟨r, hr⟩ : ∃ r, Nm.isW (Nm.sc k) x.data.toList = r := ⟨_, rfl⟩
      rw [show Nm.wd (Nm.sc k) x = r from hr] at HALL
      rw [hr] at L1
      have HX := Lib.hid hx
      clear htk hxx hx hsz hr
      go_wp2
      go_region_held3 (fun w' => w'.cell? ⟨w.heap.size, 0, none⟩ = some (.int .i64 k) ∧ w'.cell? ⟨w.heap.size, 1, none⟩ = some (.slice (some ad) n c) ∧ w'.cell? (ad.add i) = some (.string x)) (first | exact ⟨x0, x1, hx1⟩ | exact ⟨q0, q1, qx⟩ | assumption) (first
        | (go_at_call 23
           (with_reducible refine (L1.out _).mono ?_)
           rintro e w1 ⟨rfl, g1⟩
           have gg := Nm.Nb (w := V) (by nm_below HW.out) g1
           have q0 := (gg.cell (p := ⟨w.heap.size, 0, none⟩) HZ.out.2.2).trans HZ.out.1
           have q1 := (gg.cell (p := ⟨w.heap.size, 1, none⟩) HZ.out.2.2).trans HZ.out.2.1
           have qx := (gg.cell (p := ad.add i) (by rw [add_block]; exact had)).trans HX.out)
        | fail)
      cases r with
      | true =>
        go_wp2
        exact ⟨⟨i + 1, by omega, by go_num, HALL, Lib.hid (by nm_below gg)⟩, by simp [intOf]; omega⟩
      | false =>
        have HF : Hid (Nm.okT k ss = false) := Lib.hid (by
          rw [OK.out]
          cases hc : ss.all (Nm.wd (Nm.sc k)) with
          | false => rfl
          | true =>
            have h2 : (ss.take (i + 1)).all (Nm.wd (Nm.sc k)) = true := List.all_eq_true.2 fun y hy => List.all_eq_true.1 hc y (List.mem_of_mem_take hy)
            rw [HALL.out] at h2
            cases h2)
        have gV := Nm.Nb HB.out gg
        go_wp2
        go_ret
        exact ⟨congrArg (fun z => Ending.returned (.bool z)) HF.out.symm, by nm_below gV⟩
    · obtain rfl : i = n := by omega
      have hall := HE.out
      rw [List.take_of_length_le (by rw [HN.out]; exact Nat.le_refl _)] at hall
      have hok := OK.out
      rw [hall, Bool.true_and] at hok
      have HF := Lib.hid hok
      have gV := Nm.Nb HB.out HW.out
      clear hall hok
      by_cases h1 : 1 ≤ i
      · have hd1 : decide ((1 : Int) ≤ (i : Int)) = true := decide_eq_true (by omega)
        by_cases h6 : i ≤ 6
        · have hd6 : decide ((i : Int) ≤ 6) = true := decide_eq_true (by omega)
          have HG : Hid (Nm.okT k ss = true) := Lib.hid (by rw [HF.out, decide_eq_true h1, decide_eq_true h6]; rfl)
          go_wp2
          go_ret
          exact ⟨congrArg (fun z => Ending.returned (.bool z)) HG.out.symm, gV⟩
        · have hd6 : decide ((i : Int) ≤ 6) = false := decide_eq_false (by omega)
          have HG : Hid (Nm.okT k ss = false) := Lib.hid (by rw [HF.out, decide_eq_false h6, Bool.and_false])
          go_wp2
          go_ret
          exact ⟨congrArg (fun z => Ending.returned (.bool z)) HG.out.symm, gV⟩
      · have hd1 : decide ((1 : Int) ≤ (i : Int)) = false := decide_eq_false (by omega)
        have HG : Hid (Nm.okT k ss = false) := Lib.hid (by rw [HF.out, decide_eq_false h1, Bool.false_and])
        go_wp2
        go_ret
        exact ⟨congrArg (fun z => Ending.returned (.bool z)) HG.out.symm, gV⟩
end Go.Proofs.YtcjlnmfbanknhaaDoor
