/- The program's twoDigits, Text and Parse (layer 6). -/
import Derived.Test.YtkkgefefbamcpaaDoorClF
import Derived.Test.YtkkgefefbamcpaaDoorClTx
import Derived.Test.YtkkgefefbamcpaaDoorShelf
import Derived.Lib.ItoaNum
import Derived.Lib.LaidTab
import Derived.Lib.QuietBelow
import Derived.Lib.AppendIntMem
import Derived.Deep.LoopGhost
set_option linter.unusedSimpArgs false
set_option linter.unusedVariables false
namespace Go.Proofs.YtkkgefefbamcpaaDoor
open Go.RowKit
set_option maxRecDepth 100000

theorem Cl.bsize (l : List UInt8) : (⟨l.toArray⟩ : ByteArray).size = l.length := by simp [ByteArray.size]
theorem Cl.gPow : Tryd.prog.globalNamed "internal/strconv.uint64pow10" = some 3 := by kernel_rfl

/-- The library's table and variables, below block B. -/
structure PowC (B : Nat) (w : World) : Prop where
  tab : Lib.TabIs Tryd.prog w "internal/strconv.uint64pow10" .u64 Lib.pow10Tab
  tabB : 3 < B
  er : ∃ te pe, w.cell? ⟨2, 0, none⟩ = some (.iface te pe)
  erB : 2 < B
  es : ∃ te pe, w.cell? ⟨1, 0, none⟩ = some (.iface te pe)
  esB : 1 < B
  ml : ∃ m : Int, w.cell? ⟨0, 0, none⟩ = some (.int .i64 m)
  mlB : 0 < B

theorem Cl.tab_below {w w' : World} {B i : Nat} {name : String} {q : IntKind} {tab : List Int} (h : Lib.TabIs Tryd.prog w name q tab) (hi : Tryd.prog.globalNamed name = some i) (hlt : i < B) (hb : Below B w w') : Lib.TabIs Tryd.prog w' name q tab := by
  unfold Lib.TabIs World.var? at *
  rw [hi] at h ⊢
  simp only [Option.bind_some] at h ⊢
  rw [hb.block i hlt]
  exact h
theorem PowC.bt {w w' : World} (h : PowC w.heap.size w) (hb : Below w.heap.size w w') : PowC w'.heap.size w' := by
  obtain ⟨h1, h2, ⟨te, pe, h3⟩, h4, ⟨te', pe', h5⟩, h6, ⟨m, h7⟩, h8⟩ := h
  exact ⟨Cl.tab_below h1 Cl.gPow h2 hb, Nat.lt_of_lt_of_le h2 hb.size, ⟨te, pe, Cl.cell_bt h3 hb⟩, Nat.lt_of_lt_of_le h4 hb.size, ⟨te', pe', Cl.cell_bt h5 hb⟩, Nat.lt_of_lt_of_le h6 hb.size, ⟨m, Cl.cell_bt h7 hb⟩, Nat.lt_of_lt_of_le h8 hb.size⟩

theorem Cl.itoa_nat (n : Nat) : Lib.itoa (n : Int) = Lib.decDigits n := by
  unfold Lib.itoa
  rw [if_neg (by omega)]
  simp
theorem Cl.itoa_any (n : Nat) (w : World) (h1 : (n : Int) ≤ 9223372036854775807) (hp : PowC w.heap.size w) :
    Calls Tryd.prog 31 #[.int .i64 (n : Int)] w fun e w' => e = .returned (.string ⟨(Lib.decDigits n).toArray⟩) ∧ Below w.heap.size w w' := by
  refine (Tryd.strconv_Itoa n (by omega) h1 w hp.tab).mono ?_
  rintro e w' ⟨rfl, k, os, rfl⟩
  rw [Cl.itoa_nat]
  exact ⟨rfl, Lib.below_grow _ _ (Nat.le_refl _) _ _⟩
theorem Cl.cut_any (c : UInt8) (s : ByteArray) (w : World) (hs : s.size ≤ 2000000) (hp : PowC w.heap.size w) :
    Calls Tryd.prog 35 #[.string s, .string ⟨#[c]⟩] w fun e w' => e = .returned (.tuple #[.string ⟨(Cl.cutAt c s.data.toList).1.toArray⟩, .string ⟨(Cl.cutAt c s.data.toList).2.1.toArray⟩, .bool (Cl.cutAt c s.data.toList).2.2]) ∧ Below w.heap.size w w' := by
  obtain ⟨m, h1⟩ := hp.ml
  refine (Tryd.strings_Cut s ⟨#[c]⟩ m w (by omega) h1).mono ?_
  rintro e w' ⟨rfl, k, rfl⟩
  rw [← Cl.cut_at]
  exact ⟨rfl, ⟨rfl, rfl, rfl, Nat.le_refl _, fun _ _ => rfl⟩⟩
theorem Cl.atoi_any (s : ByteArray) (w : World) (hs : s.size ≤ 2000000) (hp : PowC w.heap.size w) :
    Calls Tryd.prog 36 #[.string s] w fun e w' => ∃ ev, e = .returned (.tuple #[.int .i64 (Cl.atoiV s.data.toList), ev]) ∧ Below w.heap.size w w' := by
  unfold Cl.atoiV
  cases h : Lib.atoiAll s.data.toList with
  | ok v =>
    refine (Tryd.strconv_Atoi_ok s (by omega) v h w).mono ?_
    rintro e w' ⟨rfl, hw⟩
    refine ⟨_, rfl, ?_⟩
    rcases hw with rfl | ⟨t, rfl⟩
    · exact Below.refl _ _
    · exact Lib.bytesWorld_below _ _ _
  | «syntax» =>
    obtain ⟨te, pe, hc⟩ := hp.es
    refine (Tryd.strconv_Atoi_syntax s (by omega) h (.iface te pe) w hc (.inr ⟨te, pe, rfl⟩)).mono ?_
    rintro e w' ⟨N, rfl, _, _, hb⟩
    exact ⟨_, rfl, hb⟩
  | range =>
    obtain ⟨te, pe, hc⟩ := hp.er
    refine (Tryd.strconv_Atoi_range s (by omega) h (.iface te pe) w hc (.inr ⟨te, pe, rfl⟩)).mono ?_
    rintro e w' ⟨N, rfl, _, _, hb⟩
    exact ⟨_, rfl, hb⟩

set_option maxHeartbeats 1000000 in
theorem two_any (n : Nat) (w : World) (hn : n < 100) (hp : PowC w.heap.size w) :
    Calls Tryd.prog 32 #[.int .i64 (n : Int)] w fun e w' => e = .returned (.string ⟨(Cl.tw n).toArray⟩) ∧ Below w.heap.size w w' := by
  have h1 := Lib.hid (fun v (h : Below w.heap.size w v) => Cl.itoa_any (n / 10) v (by omega) (hp.bt h))
  have h2 := Lib.hid (fun v (h : Below w.heap.size w v) => Cl.itoa_any (n % 10) v (by omega) (hp.bt h))
  have hr : ∀ a b : List UInt8, (⟨(a ++ b).toArray⟩ : ByteArray) = ⟨a.toArray⟩ ++ ⟨b.toArray⟩ := fun a b => by
    apply ByteArray.ext
    simp
  unfold Cl.tw
  rw [hr]
  have la : (⟨(Lib.decDigits (n / 10)).toArray⟩ : ByteArray).size ≤ 20 := by
    rw [Cl.bsize]
    exact Cl.dec_size (by omega) (by omega)
  have lb : (⟨(Lib.decDigits (n % 10)).toArray⟩ : ByteArray).size ≤ 20 := by
    rw [Cl.bsize]
    exact Cl.dec_size (by omega) (by omega)
  generalize (⟨(Lib.decDigits (n / 10)).toArray⟩ : ByteArray) = a at *
  generalize (⟨(Lib.decDigits (n % 10)).toArray⟩ : ByteArray) = b at *
  rw [show ((n / 10 : Nat) : Int) = (n : Int) / 10 by omega] at h1
  rw [show ((n % 10 : Nat) : Int) = (n : Int) % 10 by omega] at h2
  have hb0 := Below.refl w.heap.size w
  clear hr
  go_enter Tryd.func32, Tryd.ntmps32
  go_wp2_with fail
  refine (h1.out _ hb0).mono ?_
  rintro e w1 ⟨rfl, hb1⟩
  go_wp2_with fail
  refine (h2.out _ hb1).mono ?_
  rintro e w2 ⟨rfl, hb2⟩
  have hb := Cl.Nb hb1 hb2
  clear hb1 hb2
  go_wp2_with fail
  go_ret
  exact ⟨rfl, hb⟩

theorem Cl.txt_parts (t : Nat) : Cl.txt t = (((⟨(Lib.decDigits (t / 1440)).toArray⟩ ++ ⟨#[47]⟩) ++ ⟨(Cl.tw (t % 1440 / 60)).toArray⟩) ++ ⟨#[58]⟩) ++ ⟨(Cl.tw (t % 1440 % 60)).toArray⟩ := by
  apply ByteArray.ext
  unfold Cl.txt Cl.txl
  simp

set_option maxHeartbeats 1000000 in
theorem text_any (t : Int) (w : World) (hp : PowC w.heap.size w) :
    Calls Tryd.prog 18 #[.int .i64 t] w fun e w' => e = .returned (.tuple #[.string (Cl.textF t).1, .int .i64 (Cl.textF t).2]) ∧ Below w.heap.size w w' := by
  have HI := Lib.hid (Cl.isInstant_any t w)
  unfold Cl.textF
  cases hi : Cl.isI t
  · rw [hi] at HI
    unfold Cl.nilT
    simp only [Bool.false_eq_true, if_false]
    clear hi
    go_enter Tryd.func18, Tryd.ntmps18
    go_wp2_with fail
    refine HI.out.mono ?_
    rintro e w1 ⟨rfl, rfl⟩
    go_wp2_with fail
    go_ret2
    exact ⟨rfl, Below.refl _ _⟩
  · rw [hi] at HI
    obtain ⟨h0, h1⟩ := (Cl.isI_iff t).1 hi
    obtain ⟨n, rfl⟩ : ∃ n : Nat, t = (n : Int) := ⟨t.toNat, by omega⟩
    simp only [if_true, Int.toNat_natCast]
    rw [Cl.txt_parts]
    have k1 := Lib.hid (fun v (h : Below w.heap.size w v) => Cl.itoa_any (n / 1440) v (by omega) (hp.bt h))
    have k2 := Lib.hid (fun v (h : Below w.heap.size w v) => two_any (n % 1440 / 60) v (by omega) (hp.bt h))
    have k3 := Lib.hid (fun v (h : Below w.heap.size w v) => two_any (n % 1440 % 60) v (by omega) (hp.bt h))
    have la : (⟨(Lib.decDigits (n / 1440)).toArray⟩ : ByteArray).size ≤ 20 := by
      rw [Cl.bsize]
      exact Cl.dec_size (by omega) (by omega)
    have lb : (⟨(Cl.tw (n % 1440 / 60)).toArray⟩ : ByteArray).size ≤ 20 := by
      rw [Cl.bsize, Cl.tw_lt (by omega)]
      simp
    have lc : (⟨(Cl.tw (n % 1440 % 60)).toArray⟩ : ByteArray).size ≤ 20 := by
      rw [Cl.bsize, Cl.tw_lt (by omega)]
      simp
    generalize (⟨(Lib.decDigits (n / 1440)).toArray⟩ : ByteArray) = a at *
    generalize (⟨(Cl.tw (n % 1440 / 60)).toArray⟩ : ByteArray) = b at *
    generalize (⟨(Cl.tw (n % 1440 % 60)).toArray⟩ : ByteArray) = c at *
    rw [show ((n / 1440 : Nat) : Int) = (n : Int) / 1440 by omega] at k1
    rw [show ((n % 1440 / 60 : Nat) : Int) = (n : Int) % 1440 / 60 by omega] at k2
    rw [show ((n % 1440 % 60 : Nat) : Int) = (n : Int) % 60 by omega] at k3
    have hb0 := Below.refl w.heap.size w
    have l1 : ((⟨#[47]⟩ : ByteArray)).size = 1 := rfl
    have l2 : ((⟨#[58]⟩ : ByteArray)).size = 1 := rfl
    have s1 : (a ++ ⟨#[47]⟩).size ≤ 21 := by rw [ByteArray.size_append]; omega
    have s2 : (a ++ ⟨#[47]⟩ ++ b).size ≤ 41 := by rw [ByteArray.size_append]; omega
    have s3 : (a ++ ⟨#[47]⟩ ++ b ++ ⟨#[58]⟩).size ≤ 42 := by rw [ByteArray.size_append]; omega
    clear hi l1 l2
    go_enter Tryd.func18, Tryd.ntmps18
    go_wp2_with fail
    refine HI.out.mono ?_
    rintro e w1 ⟨rfl, rfl⟩
    go_wp2_with fail
    refine (k1.out _ hb0).mono ?_
    rintro e w1 ⟨rfl, hb1⟩
    go_wp2_with fail
    refine (k2.out _ hb1).mono ?_
    rintro e w2 ⟨rfl, hb2⟩
    have hb := Cl.Nb hb1 hb2
    clear hb1 hb2
    go_wp2_with fail
    refine (k3.out _ hb).mono ?_
    rintro e w3 ⟨rfl, hb3⟩
    have hb' := Cl.Nb hb hb3
    clear hb hb3
    go_wp2_with fail
    go_ret2
    exact ⟨rfl, hb'⟩
end Go.Proofs.YtkkgefefbamcpaaDoor
