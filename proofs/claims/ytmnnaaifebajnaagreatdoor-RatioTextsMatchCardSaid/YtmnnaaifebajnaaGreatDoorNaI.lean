/- Texts of numbers, and numbers of texts. -/
import Derived.Test.YtmnnaaifebajnaaGreatDoorNaG
import Derived.Test.YtmnnaaifebajnaaGreatDoorShelf
import Derived.Test.YtmnnaaifebajnaaGreatDoorBuild
import Derived.Lib.AppendIntMem
import Derived.Lib.Builder
import Derived.Deep.LoopGhost
set_option linter.unusedSimpArgs false
set_option linter.unusedVariables false
namespace Go.Proofs.YtmnnaaifebajnaaGreatDoor
open Go.RowKit
set_option maxRecDepth 100000

theorem bsizeN (l : List UInt8) : (⟨l.toArray⟩ : ByteArray).size = l.length := by simp [ByteArray.size]

theorem gPow : Tryz.prog.globalNamed "internal/strconv.uint64pow10" = some 2 := by kernel_rfl

/-- The table of powers of ten and the error of a range, and that they stand below block B. -/
def Pow (B : Nat) (w : World) : Prop := Lib.TabIs Tryz.prog w "internal/strconv.uint64pow10" .u64 Lib.pow10Tab ∧ 2 < B ∧ (∃ te pe, w.cell? ⟨4, 0, none⟩ = some (.iface te pe)) ∧ 4 < B

theorem tab_belowN {w w' : World} {B i : Nat} {name : String} {q : IntKind} {tab : List Int} (h : Lib.TabIs Tryz.prog w name q tab) (hi : Tryz.prog.globalNamed name = some i) (hlt : i < B) (hb : Below B w w') : Lib.TabIs Tryz.prog w' name q tab := by
  unfold Lib.TabIs World.var? at *
  rw [hi] at h ⊢
  simp only [Option.bind_some] at h ⊢
  rw [hb.block i hlt]
  exact h

theorem Pow.bt {w w' : World} (h : Pow w.heap.size w) (hb : Below w.heap.size w w') : Pow w'.heap.size w' := by
  obtain ⟨h1, h2, ⟨te, pe, h3⟩, h4⟩ := h
  exact ⟨tab_belowN h1 gPow h2 hb, Nat.lt_of_lt_of_le h2 hb.size, ⟨te, pe, (hb.cell (p := ⟨4, 0, none⟩) h4).trans h3⟩, Nat.lt_of_lt_of_le h4 hb.size⟩

theorem itoa_nat (n : Nat) : Lib.itoa (n : Int) = Lib.decDigits n := by
  unfold Lib.itoa
  rw [if_neg (by omega)]
  simp

theorem itoa_any (n : Nat) (w : World) (h1 : (n : Int) ≤ 9223372036854775807) (hp : Pow w.heap.size w) :
    Calls Tryz.prog 37 #[.int .i64 (n : Int)] w fun e w' => e = .returned (.string ⟨(Lib.decDigits n).toArray⟩) ∧ Below w.heap.size w w' := by
  refine (Tryz.strconv_Itoa n (by omega) h1 w hp.1).mono ?_
  rintro e w' ⟨rfl, k, os, rfl⟩
  rw [itoa_nat]
  exact ⟨rfl, Lib.below_grow _ _ (Nat.le_refl _) _ _⟩

/-- The text of a number. -/
def tx (n : Nat) : ByteArray := ⟨(Lib.decDigits n).toArray⟩

theorem tx_size (n : Nat) : (tx n).size = (Lib.decDigits n).length := bsizeN _

theorem pow6 (k : Nat) : 1000000 ^ k = 10 ^ (6 * k) := by rw [show (1000000 : Nat) = 10 ^ 6 by rfl, Nat.pow_mul]

theorem isZero_lim (n : Nat) : decide ((Na.lim n).length = 0) = decide (n = 0) := by
  by_cases h : n = 0
  · subst h; rw [Na.lim_zero]; rfl
  · have : (Na.lim n).length ≠ 0 := fun e => h (Na.lim_nil.1 (List.eq_nil_of_length_eq_zero e))
    simp [h, this]

set_option maxHeartbeats 1000000 in
theorem text_any (A : Option Addr) (n c : Nat) (w : World) (hs : Ints w w.heap.size A (Na.lim n)) (hl : (Na.lim n).length ≤ 1000) (hp : Pow w.heap.size w) :
    Calls Tryz.prog 82 #[.slice A (Na.lim n).length c] w fun e w' => e = .returned (.string (tx n)) ∧ Below w.heap.size w w' := by
  have HZ := Lib.hid (isZero_any A (Na.lim n).length c w)
  rw [isZero_lim] at HZ
  by_cases h0 : n = 0
  · subst h0
    rw [show tx 0 = ⟨#[48]⟩ by unfold tx; rw [Na.dec_zero]]
    simp only [decide_true] at HZ
    rw [Na.lim_zero] at HZ ⊢
    go_enter Tryz.func82, Tryz.ntmps82
    go_wp2_with fail
    refine HZ.out.mono ?_
    rintro e w1 ⟨rfl, rfl⟩
    go_wp2_with fail
    go_ret
    exact ⟨rfl, Below.refl _ _⟩
  · rw [decide_eq_false h0] at HZ
    have hpos : 0 < (Na.lim n).length := by
      rcases Nat.eq_zero_or_pos (Na.lim n).length with h | h
      · exact absurd (Na.lim_nil.1 (List.eq_nil_of_length_eq_zero h)) h0
      · exact h
    obtain ⟨K, hK⟩ : ∃ K, (Na.lim n).length = K + 1 := ⟨(Na.lim n).length - 1, by omega⟩
    obtain ⟨ad, rfl, _, hcell⟩ := hs K (by omega)
    have hd := Na.lim_lt n
    have hlast : (Na.lim n).getD K 0 ≠ 0 := by
      have hne : Na.lim n ≠ [] := by intro e; rw [e] at hK; simp at hK
      have := Na.lim_last n hne
      rw [List.getLast_eq_getElem] at this
      rw [List.getD_eq_getElem?_getD, List.getElem?_eq_getElem (by omega)]
      simp only [hK, Nat.add_sub_cancel] at this
      exact this
    have hlv := Na.lv_lim n
    have HS := Lib.hid hs
    have hx := Na.getD_lt hd K (by omega)
    have HD := Lib.hid hd
    have HLV := Lib.hid hlv
    have H0 := Lib.hid (show Na.lv ((Na.lim n).drop K) = (Na.lim n).getD K 0 by rw [Na.lv_drop (Na.lim n) K (by omega), List.drop_eq_nil_of_le (by omega), Na.lv_nil, Nat.mul_zero, Nat.add_zero])
    have HLD := Lib.hid (fun k (hk : k < (Na.lim n).length) => Na.lv_drop (Na.lim n) k hk)
    have HGL := Lib.hid (fun k (hk : k < (Na.lim n).length) => Na.getD_lt hd k hk)
    clear hd hs hlv
    rw [hK] at HZ hl ⊢
    obtain ⟨t, ht⟩ : ∃ t, t = (Na.lim n).getD K 0 := ⟨_, rfl⟩
    rw [← ht] at H0 hcell hlast hx
    have hb1 : Below w.heap.size w (w.alloc (.cells #[.pointer none, .slice none 0 0] 99)) := (Below.refl _ _).alloc (Nat.le_refl _) _
    have hc1 : (w.alloc (.cells #[.pointer none, .slice none 0 0] 99)).cell? (ad.add K) = some (.int .i64 (t : Int)) := (hb1.cell (p := ad.add K) (cell_lt hcell)).trans hcell
    have hp1 := hp.bt hb1
    have HF := Lib.hid (Lib.fresh_isBuilder 99 5 w)
    have HI1 := Lib.hid (itoa_any t (w.alloc (.cells #[.pointer none, .slice none 0 0] 99)) (by omega) hp1)
    have hz1 : w.heap.size ≤ (w.alloc (.cells #[.pointer none, .slice none 0 0] 99)).heap.size := hb1.size
    have htl : (tx t).size ≤ 6 := by
      rw [tx_size]
      exact (Na.dec_len (by omega)).2 (by omega)
    have HPW := Lib.hid (fun (v : World) (hb : Below w.heap.size w v) => hp.bt hb)
    clear ht hpos hcell hp
    go_enter Tryz.func82, Tryz.ntmps82
    go_wp2_with fail
    refine HZ.out.mono ?_
    rintro e w1 ⟨rfl, rfl⟩
    go_wp2_with fail
    refine HI1.out.mono ?_
    rintro e w2 ⟨rfl, hb2⟩
    have hB2 := builder_below HF.out hb2
    have hbw2 := Nb hb1 hb2
    have hp2 := hp1.bt hb2
    go_wp2_with fail
    refine (writeString_any w.heap.size w.heap.size [] (tx t) w2 hB2 (by simp; omega) hbw2.size).mono ?_
    rintro e w3 ⟨rfl, hB3, hb3⟩
    have hbw3 : Below w.heap.size w w3 := hbw2.trans hb3
    have hp3 : Pow w3.heap.size w3 := HPW.out w3 hbw3
    rw [List.nil_append] at hB3
    have HB3 := Lib.hid hB3
    clear hB3 hB2 HF hc1
    go_wp2_with fail
    have HTX : Hid (∀ j, (tx (Na.lv ((Na.lim n).drop j))).size ≤ 6 * 1001) := by
      refine Lib.hid fun j => ?_
      rw [tx_size]
      refine (Na.dec_len (by omega)).2 ?_
      have h1 : n < 1000000 ^ (Na.lim n).length := Na.lim_length.1 (Nat.le_refl _)
      have h2 := Nat.pow_le_pow_right (n := 10) (by omega) (show 6 * (Na.lim n).length ≤ 6 * 1001 by omega)
      have h4 : Na.lv ((Na.lim n).drop j) ≤ n := by
        rw [Na.lv_drop_all]
        exact Nat.div_le_self _ _
      rw [pow6] at h1
      exact Nat.lt_of_le_of_lt h4 (Nat.lt_of_lt_of_le h1 h2)
    go_loopw [4] (fun i wr => ∃ j : Nat, j ≤ K ∧ i = .int .i64 ((j : Int) - 1) ∧ Hid (0 < Na.lv ((Na.lim n).drop j)) ∧ Hid (Lib.IsBuilder 99 5 w.heap.size w.heap.size (Lib.strCells (tx (Na.lv ((Na.lim n).drop j)))) wr) ∧ Below w.heap.size w wr) (fun i _ => (intOf i + 1).toNat)
    case atStart => exact ⟨K, Nat.le_refl _, by congr 1; omega, Lib.hid (by rw [H0.out]; omega), Lib.hid (by rw [H0.out]; exact HB3.out), hbw3⟩
    case round =>
      clear HB3 hbw3 hp3 hb3 hb2 hbw2 hp2 hp1 hb1 HI1 H0
      obtain ⟨j, hj, eij, HPOS, HB, hb⟩ := hrel
      by_cases h0 : j = 0
      · subst h0
        subst eij
        have hbs : Lib.IsBuilder 99 5 w.heap.size w.heap.size (Lib.byteCells (Lib.decDigits n)) wr := by
          have := HB.out
          rw [List.drop_zero, HLV.out] at this
          exact this
        have BS := Lib.hid (Tryz.Builder_String_any w.heap.size w.heap.size (Lib.decDigits n) wr hbs hb.size)
        clear hbs
        go_wp2_with fail
        refine BS.out.mono ?_
        rintro e w5 ⟨rfl, hb5⟩
        go_wp2_with fail
        go_ret
        exact ⟨rfl, hb.trans hb5⟩
      · obtain ⟨i, rfl⟩ : ∃ i, j = i + 1 := ⟨j - 1, by omega⟩
        obtain rfl := eij.trans (show Value.int .i64 (((i + 1 : Nat) : Int) - 1) = .int .i64 (i : Int) by congr 1; omega)
        clear eij
        obtain ⟨ad', e, _, hcx⟩ := (HS.out.bt hb) i (by omega)
        cases e
        have hxl := HGL.out i (by omega)
        have hLD := HLD.out i (by omega)
        obtain ⟨x, hx⟩ : ∃ x, x = (Na.lim n).getD i 0 := ⟨_, rfl⟩
        rw [← hx] at hcx hxl hLD
        have IT := Lib.hid (itoa_any (1000000 + x) wr (by omega) (HPW.out wr hb))
        obtain ⟨sd, hsd⟩ : ∃ sd : ByteArray, sd = ⟨(Lib.decDigits (1000000 + x)).toArray⟩ := ⟨_, rfl⟩
        rw [← hsd] at IT
        have hp6 := Na.pad6_facts x hxl
        have hsz7 : sd.size = 7 := by
          rw [hsd, bsizeN]
          have : ((Lib.decDigits (1000000 + x)).drop 1).length = 6 := hp6.1
          rw [List.length_drop] at this
          omega
        have HSD := Lib.hid hsd
        have hix : ((1000000 : Int) + (x : Int)) = ((1000000 + x : Nat) : Int) := by omega
        have HIX := Lib.hid hix
        have HLD' := Lib.hid hLD
        have hik : (i : Int) < (K : Int) + 1 := by omega
        clear hx hsd hp6 hix hLD
        go_wp2_with fail
        rw [HIX.out]
        refine IT.out.mono ?_
        rintro e w5 ⟨rfl, hb5⟩
        have hb5w := Nb hb hb5
        have HB5 := Lib.hid (builder_below HB.out hb5)
        go_wp2_with fail
        have hlen : (Lib.strCells (tx (Na.lv ((Na.lim n).drop (i + 1))))).length + (sd.extract 1 7).size ≤ 140737488355328 := by
          rw [Lib.strCells_length, ByteArray.size_extract]
          have := HTX.out (i + 1)
          omega
        have WS := Lib.hid (writeString_any w.heap.size w.heap.size _ (sd.extract 1 7) w5 HB5.out hlen hb5w.size)
        have HCE : Hid (Lib.strCells (tx (Na.lv ((Na.lim n).drop (i + 1)))) ++ Lib.strCells (sd.extract 1 7) = Lib.strCells (tx (Na.lv ((Na.lim n).drop i)))) := by
          refine Lib.hid ?_
          have h1 : (sd.extract 1 7).data.toList = Na.pad6 x := by
            rw [HSD.out]
            have h7 := hsz7
            rw [HSD.out, bsizeN] at h7
            rw [ByteArray.data_extract, Array.toList_extract]
            unfold Na.pad6
            simp only [List.extract_eq_take_drop]
            rw [List.take_of_length_le (by rw [List.length_drop, h7]; omega)]
          unfold Lib.strCells
          rw [← List.map_append, h1]
          congr 1
          rw [HLD'.out]
          unfold tx
          rw [Na.dec_step _ x HPOS.out hxl]
        clear hlen
        go_wp2_with fail
        refine WS.out.mono ?_
        rintro e w6 ⟨rfl, hB6, hb6⟩
        have HB6 := Lib.hid hB6
        clear hB6
        go_wp2_with fail
        refine ⟨⟨i, by omega, by go_num, Lib.hid (by rw [HLD'.out]; have := HPOS.out; omega), Lib.hid (by rw [← HCE.out]; exact HB6.out), hb5w.trans hb6⟩, by simp [intOf]⟩
end Go.Proofs.YtmnnaaifebajnaaGreatDoor
