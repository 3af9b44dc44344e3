/- The reference's texts of instants (layer 6). -/
import Derived.Test.YtkkgefefbamcpaaDoorClRb
import Derived.Test.YtkkgefefbamcpaaDoorClQ
import Derived.LoopTactic
import Derived.Outline
import Derived.Lib.Hide
import Derived.Lib.ItoaNum
import Derived.Lib.AppendStr
import Derived.Laws.IdiomStrings
import Derived.OwnWalk
set_option linter.unusedSimpArgs false
set_option linter.unusedVariables false
namespace Go.Proofs.YtkkgefefbamcpaaDoor.Rd
open Go.RowKit
set_option maxRecDepth 100000

theorem app_byte (c : UInt8) (l : List UInt8) : ((⟨#[c]⟩ : ByteArray) ++ ⟨l.toArray⟩) = ⟨(c :: l).toArray⟩ := by
  apply ByteArray.ext
  simp [ByteArray.data_append]
def dg10 (u : Nat) : UInt8 := UInt8.ofNat (48 + u % 10)
def pre (u : Nat) : List UInt8 := if u = 0 then [] else Lib.decDigits u
theorem dec_pre (u : Nat) : Lib.decDigits u = pre (u / 10) ++ [dg10 u] := by
  rw [Lib.decDigits]
  by_cases h : u < 10
  · rw [dif_pos h]
    unfold pre
    rw [if_pos (by omega)]
    unfold dg10
    rw [Nat.mod_eq_of_lt h]
    rfl
  · rw [dif_neg h]
    unfold pre
    rw [if_neg (by omega)]
    rfl
theorem nd_le : ∀ (k u : Nat), u < 10 ^ (k + 1) → Lib.nDigits u ≤ k + 1
  | 0, u, h => by rw [Lib.nDigits_small (by omega)]; omega
  | k + 1, u, h => by
    by_cases hu : u < 10
    · rw [Lib.nDigits_small hu]; omega
    · rw [Lib.nDigits_big hu]
      have := nd_le k (u / 10) (by rw [Nat.pow_succ] at h; omega)
      omega
theorem dec_length (u : Nat) (h : u < 18446744073709551616) : (Lib.decDigits u).length ≤ 20 := by
  rw [Lib.decDigits_length]
  exact nd_le 19 u (by omega)

def decB : ByteArray := ⟨#[48, 49, 50, 51, 52, 53, 54, 55, 56, 57]⟩
theorem decB_one (d : Nat) (h : d < 10) : decB.extract d (d + 1) = ⟨#[UInt8.ofNat (48 + d)]⟩ := by
  have : ∀ d : Fin 10, decB.extract d.1 (d.1 + 1) = ⟨#[UInt8.ofNat (48 + d.1)]⟩ := by decide +kernel
  exact this ⟨d, h⟩

theorem slice_dec (r : Nat) (w : World) :
    (Instr.slice 9 (.string ⟨#[48, 49, 50, 51, 52, 53, 54, 55, 56, 57]⟩) (some (.int .u64 ((r : Int) % 10))) (some (.int .u64 ((r : Int) % 10 + 1))) none).run Tryd.prog w = .ok (.string ⟨#[dg10 r]⟩) w := by
  have h := run_slice_string (P := Tryd.prog) (w := w) 9 decB .u64 .u64 ((r : Int) % 10) ((r : Int) % 10 + 1) Tryd.underlying9 (by omega) (by omega) (by show _ ≤ (10 : Int); omega)
  have e := decB_one (r % 10) (by omega)
  rw [show ((r : Int) % 10).toNat = r % 10 by omega, show ((r : Int) % 10 + 1).toNat = r % 10 + 1 by omega, e] at h
  exact h

theorem digits_any (n : Nat) (w : World) (hn : n < 18446744073709551616) :
    Calls Tryd.prog 39 #[.int .u64 (n : Int)] w fun e w' => e = .returned (.string ⟨(Lib.decDigits n).toArray⟩) ∧ w = w' := by
  have hlen := dec_length n hn
  have hd := dec_pre n
  generalize hD : Lib.decDigits n = D at *
  clear hD
  have hsl := slice_dec n w
  have HD := Lib.hid hd
  clear hd
  go_enter Tryd.func39, Tryd.ntmps39
  go_wp2
  clear hsl
  go_loop [0, 3] (fun m s => ∃ (u : Nat) (t : List UInt8), u ≤ n ∧ m = .int .u64 (u : Int) ∧ s = .string ⟨t.toArray⟩ ∧ D = pre u ++ t) (fun m _ => (intOf m).toNat)
  case atStart => exact ⟨n / 10, [dg10 n], by omega, by go_num, rfl, HD.out⟩
  case round =>
    obtain ⟨u, t, hu, rfl, rfl, ht⟩ := hrel
    have htl : t.length ≤ 20 := by
      rw [ht, List.length_append] at hlen
      omega
    have HT := Lib.hid ht
    clear ht
    by_cases h0 : 0 < u
    · have hsl := slice_dec u w
      go_wp2
      refine ⟨⟨u / 10, dg10 u :: t, by omega, by go_num, ?_, ?_⟩, by simp [intOf]; omega⟩
      · rw [app_byte]
      · rw [HT.out]
        have e : pre u = Lib.decDigits u := by unfold pre; rw [if_neg (by omega)]
        rw [e, dec_pre u]
        simp
    · obtain rfl : u = 0 := by omega
      have HF : Hid (D = t) := by rw [HT.out]; exact rfl
      clear HT
      go_wp2
      go_ret
      exact ⟨by rw [HF.out]; rfl, rfl⟩

theorem decimal_any (n : Nat) (w : World) (hn : (n : Int) ≤ 9223372036854775807) :
    Calls Tryd.prog 33 #[.int .i64 (n : Int)] w fun e w' => e = .returned (.string ⟨(Lib.decDigits n).toArray⟩) ∧ w = w' := by
  go_enter Tryd.func33, Tryd.ntmps33
  go_wp2_with (first
    | (go_at_call 39; refine (digits_any n _ (by omega)).mono ?_; rintro e w1 ⟨rfl, rfl⟩)
    | fail)
  go_ret
  exact ⟨rfl, rfl⟩

theorem decimal_below (n : Nat) (w : World) (hn : (n : Int) ≤ 9223372036854775807) :
    Calls Tryd.prog 33 #[.int .i64 (n : Int)] w fun e w' => e = .returned (.string ⟨(Lib.decDigits n).toArray⟩) ∧ Below w.heap.size w w' :=
  (decimal_any n w hn).mono fun _ _ h => ⟨h.1, by rw [← h.2]; exact Below.refl _ _⟩
end Go.Proofs.YtkkgefefbamcpaaDoor.Rd
namespace Go.Proofs.YtkkgefefbamcpaaDoor
open Go.RowKit
set_option maxRecDepth 100000

set_option maxHeartbeats 1000000 in
theorem rtwo_any (n : Nat) (w : World) (hn : n < 100) :
    Calls Tryd.prog 34 #[.int .i64 (n : Int)] w fun e w' => e = .returned (.string ⟨(Cl.tw n).toArray⟩) ∧ Below w.heap.size w w' := by
  have C := Lib.hid (Rd.decimal_below n w (by omega))
  have ls : (⟨(Lib.decDigits n).toArray⟩ : ByteArray).size ≤ 20 := by
    rw [Cl.bsize]
    exact Cl.dec_size (by omega) (by omega)
  by_cases h : n < 10
  · have HR := Lib.hid (show (⟨(Cl.tw n).toArray⟩ : ByteArray) = ⟨#[48]⟩ ++ ⟨(Lib.decDigits n).toArray⟩ by
      apply ByteArray.ext
      rw [Cl.tw_one h]
      simp)
    have l1 : ((⟨#[48]⟩ : ByteArray)).size = 1 := rfl
    rw [HR.out]
    clear HR
    generalize (⟨(Lib.decDigits n).toArray⟩ : ByteArray) = a at *
    go_enter Tryd.func34, Tryd.ntmps34
    go_wp2_with fail
    refine C.out.mono ?_
    rintro e w1 ⟨rfl, hb⟩
    go_wp2_with fail
    go_ret
    exact ⟨rfl, hb⟩
  · rw [Cl.tw_ge (by omega) hn]
    generalize (⟨(Lib.decDigits n).toArray⟩ : ByteArray) = a at *
    go_enter Tryd.func34, Tryd.ntmps34
    go_wp2_with fail
    refine C.out.mono ?_
    rintro e w1 ⟨rfl, hb⟩
    go_wp2_with fail
    go_ret
    exact ⟨rfl, hb⟩

set_option maxHeartbeats 1000000 in
theorem rtext_any (t : Int) (w : World) :
    Calls Tryd.prog 19 #[.int .i64 t] w fun e w' => e = .returned (.tuple #[.string (Cl.textF t).1, .int .i64 (Cl.textF t).2]) ∧ Below w.heap.size w w' := by
  have HI := Lib.hid (Cl.ris_any t w)
  unfold Cl.textF
  cases hi : Cl.isI t
  · rw [hi] at HI
    unfold Cl.nilT
    simp only [Bool.false_eq_true, if_false]
    clear hi
    go_enter Tryd.func19, Tryd.ntmps19
    go_wp2_with fail
    refine HI.out.mono ?_
    rintro e w1 ⟨rfl, rfl⟩
    go_wp2_with fail
    go_ret2
    exact ⟨rfl, Below.refl _ _⟩
  · rw [hi] at HI
    obtain ⟨h0, h1⟩ := (Cl.isI_iff t).1 hi
    obtain ⟨n, rfl⟩ : ∃ n : Nat, t = (n : Int) := ⟨t.toNat, by omega⟩
    simp only [if_true, Int.toNat_natCast]
    rw [Cl.txt_parts]
    have k1 := Lib.hid (fun v (_ : Below w.heap.size w v) => Rd.decimal_below (n / 1440) v (by omega))
    have k2 := Lib.hid (fun v (h : Below w.heap.size w v) => rtwo_any (n % 1440 / 60) v (by omega))
    have k3 := Lib.hid (fun v (h : Below w.heap.size w v) => rtwo_any (n % 1440 % 60) v (by omega))
    have la : (⟨(Lib.decDigits (n / 1440)).toArray⟩ : ByteArray).size ≤ 20 := by
      rw [Cl.bsize]
      exact Cl.dec_size (by omega) (by omega)
    have lb : (⟨(Cl.tw (n % 1440 / 60)).toArray⟩ : ByteArray).size ≤ 20 := by
      rw [Cl.bsize, Cl.tw_lt (by omega)]
      simp
    have lc : (⟨(Cl.tw (n % 1440 % 60)).toArray⟩ : ByteArray).size ≤ 20 := by
      rw [Cl.bsize, Cl.tw_lt (by omega)]
      simp
    generalize (⟨(Lib.decDigits (n / 1440)).toArray⟩ : ByteArray) = a at *
    generalize (⟨(Cl.tw (n % 1440 / 60)).toArray⟩ : ByteArray) = b at *
    generalize (⟨(Cl.tw (n % 1440 % 60)).toArray⟩ : ByteArray) = c at *
    rw [show ((n / 1440 : Nat) : Int) = (n : Int) / 1440 by omega] at k1
    rw [show ((n % 1440 / 60 : Nat) : Int) = (n : Int) % 1440 / 60 by omega] at k2
    rw [show ((n % 1440 % 60 : Nat) : Int) = (n : Int) % 60 by omega] at k3
    have hb0 := Below.refl w.heap.size w
    have l1 : ((⟨#[47]⟩ : ByteArray)).size = 1 := rfl
    have l2 : ((⟨#[58]⟩ : ByteArray)).size = 1 := rfl
    have s1 : (a ++ ⟨#[47]⟩).size ≤ 21 := by rw [ByteArray.size_append]; omega
    have s2 : (a ++ ⟨#[47]⟩ ++ b).size ≤ 41 := by rw [ByteArray.size_append]; omega
    have s3 : (a ++ ⟨#[47]⟩ ++ b ++ ⟨#[58]⟩).size ≤ 42 := by rw [ByteArray.size_append]; omega
    clear hi l1 l2
    go_enter Tryd.func19, Tryd.ntmps19
    go_wp2_with fail
    refine HI.out.mono ?_
    rintro e w1 ⟨rfl, rfl⟩
    go_wp2_with fail
    refine (k1.out _ hb0).mono ?_
    rintro e w1 ⟨rfl, hb1⟩
    go_wp2_with fail
    refine (k2.out _ hb1).mono ?_
    rintro e w2 ⟨rfl, hb2⟩
    have hb := Cl.Nb hb1 hb2
    clear hb1 hb2
    go_wp2_with fail
    refine (k3.out _ hb).mono ?_
    rintro e w3 ⟨rfl, hb3⟩
    have hb' := Cl.Nb hb hb3
    clear hb hb3
    go_wp2_with fail
    go_ret2
    exact ⟨rfl, hb'⟩
end Go.Proofs.YtkkgefefbamcpaaDoor
