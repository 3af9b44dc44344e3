import Derived.Test.YtkbncdcphohmiaaGreatDoorNaEH
import Derived.Test.YtkbncdcphohmiaaGreatDoorShelf
import Derived.Test.YtkbncdcphohmiaaGreatDoorBuild
import Derived.Lib.AppendIntMem
import Derived.Lib.Builder
import Derived.Deep.LoopGhost
/- Texts of numbers, and numbers of texts. -/
set_option linter.unusedSimpArgs false
set_option linter.unusedVariables false
namespace Go.Proofs.YtkbncdcphohmiaaGreatDoor
open Go.RowKit
set_option maxRecDepth 100000

theorem bsizeN (l : List UInt8) : (⟨l.toArray⟩ : ByteArray).size = l.length := by simp [ByteArray.size]

theorem gPow : Tryz.prog.globalNamed "internal/strconv.uint64pow10" = some 5 := by kernel_rfl

/-- The table of powers of ten and the error of a range, and that they stand below block B. -/
def Pow (B : Nat) (w : World) : Prop := Lib.TabIs Tryz.prog w "internal/strconv.uint64pow10" .u64 Lib.pow10Tab ∧ 5 < B ∧ (∃ te pe, w.cell? ⟨4, 0, none⟩ = some (.iface te pe)) ∧ 4 < B

theorem tab_belowN {w w' : World} {B i : Nat} {name : String} {q : IntKind} {tab : List Int} (h : Lib.TabIs Tryz.prog w name q tab) (hi : Tryz.prog.globalNamed name = some i) (hlt : i < B) (hb : Below B w w') : Lib.TabIs Tryz.prog w' name q tab := by
  unfold Lib.TabIs World.var? at *
  rw [hi] at h ⊢
  simp only [Option.bind_some] at h ⊢
  rw [hb.block i hlt]
  exact h

theorem Pow.bt {w w' : World} (h : Pow w.heap.size w) (hb : Below w.heap.size w w') : Pow w'.heap.size w' := by
  obtain ⟨h1, h2, ⟨te, pe, h3⟩, h4⟩ := h
  exact ⟨tab_belowN h1 gPow h2 hb, Nat.lt_of_lt_of_le h2 hb.size, ⟨te, pe, (hb.cell (p := ⟨4, 0, none⟩) h4).trans h3⟩, Nat.lt_of_lt_of_le h4 hb.size⟩

theorem itoa_nat (n : Nat) : Lib.itoa (n : Int) = Lib.decDigits n := by
  unfold Lib.itoa
  rw [if_neg (by omega)]
  simp

theorem itoa_any (n : Nat) (w : World) (h1 : (n : Int) ≤ 9223372036854775807) (hp : Pow w.heap.size w) :
    Calls Tryz.prog 44 #[.int .i64 (n : Int)] w fun e w' => e = .returned (.string ⟨(Lib.decDigits n).toArray⟩) ∧ Below w.heap.size w w' := by
  refine (Tryz.strconv_Itoa n (by omega) h1 w hp.1).mono ?_
  rintro e w' ⟨rfl, k, os, rfl⟩
  rw [itoa_nat]
  exact ⟨rfl, Lib.below_grow _ _ (Nat.le_refl _) _ _⟩

/-- The text of a number. -/
def tx (n : Nat) : ByteArray := ⟨(Lib.decDigits n).toArray⟩

theorem tx_size (n : Nat) : (tx n).size = (Lib.decDigits n).length := bsizeN _

theorem pow6 (k : Nat) : 1000000 ^ k = 10 ^ (6 * k) := by rw [show (1000000 : Nat) = 10 ^ 6 by rfl, Nat.pow_mul]

theorem isZero_lim (n : Nat) : decide ((Na.lim n).length = 0) = decide (n = 0) := by
  by_cases h : n = 0
  · subst h; rw [Na.lim_zero]; rfl
  · have : (Na.lim n).length ≠ 0 := fun e => h (Na.lim_nil.1 (List.eq_nil_of_length_eq_zero e))
    simp [h, this]

set_option maxHeartbeats 1000000 in
theorem text_any (A : Option Addr) (n c : Nat) (w : World) (hs : Ints w w.heap.size A (Na.lim n)) (hl : (Na.lim n).length ≤ 1000) (hp : Pow w.heap.size w) :
    Calls Tryz.prog 117 #[.slice A (Na.lim n).length c] w fun e w' => e = .returned (.string (tx n)) ∧ Below w.heap.size w w' := by
  have HZ := Lib.hid (isZero_any A (Na.lim n).length c w)
  rw [isZero_lim] at HZ
  by_cases h0 : n = 0
  · subst h0
    rw [show tx 0 = ⟨#[48]⟩ by unfold tx; rw [Na.dec_zero]]
    simp only [decide_true] at HZ
    rw [Na.lim_zero] at HZ ⊢
    go_enter Tryz.func117, Tryz.ntmps117
    go_wp2_with fail
    refine HZ.out.mono ?_
    rintro e w1 ⟨rfl, rfl⟩
    go_wp2_with fail
    go_ret
    exact ⟨rfl, Below.refl _ _⟩
  · rw [decide_eq_false h0] at HZ
    have hpos : 0 < (Na.lim n).length := by
      rcases Nat.eq_zero_or_pos (Na.lim n).length with h | h
      · exact absurd (Na.lim_nil.1 (List.eq_nil_of_length_eq_zero h)) h0
      · exact h
    obtain ⟨K, hK⟩ : ∃ K, (Na.lim n).length = K + 1 := ⟨(Na.lim n).length - 1, by omega⟩
    obtain ⟨ad, rfl, _, hcell⟩ := hs K (by omega)
    have hd := Na.lim_lt n
    have hlast : (Na.lim n).getD K 0 ≠ 0 := by
      have hne : Na.lim n ≠ [] := by intro e; rw [e] at hK; simp at hK
      have := Na.lim_last n hne
      rw [List.getLast_eq_getElem] at this
      rw [List.getD_eq_getElem?_getD, List.getElem?_eq_getElem (by omega)]
      simp only [hK, Nat.add_sub_cancel] at this
      exact this
    have hlv := Na.lv_lim n
    have HS := Lib.hid hs
    have hx := Na.getD_lt hd K (by omega)
    have HD := Lib.hid hd
    have HLV := Lib.hid hlv
    have H0 := Lib.hid (show Na.lv ((Na.lim n).drop K) = (Na.lim n).getD K 0 by rw [Na.lv_drop (Na.lim n) K (by omega), List.drop_eq_nil_of_le (by omega), Na.lv_nil, Nat.mul_zero, Nat.add_zero])
    have HLD := Lib.hid (fun k (hk : k < (Na.lim n).length) => Na.lv_drop (Na.lim n) k hk)
    have HGL := Lib.hid (fun k (hk : k < (Na.lim n).length) => Na.getD_lt hd k hk)
    clear hd hs hlv
    rw [hK] at HZ hl ⊢
    obtain ⟨t, ht⟩ : ∃ t, t = (Na.lim n).getD K 0 := ⟨_, rfl⟩
    rw [← ht] at H0 hcell hlast hx
    have hb1 : Below w.heap.size w (w.alloc (.cells #[.pointer none, .slice none 0 0] 155)) := (Below.refl _ _).alloc (Nat.le_refl _) _
    have hc1 : (w.alloc (.cells #[.pointer none, .slice none 0 0] 155)).cell? (ad.add K) = some (.int .i64 (t : Int)) := (hb1.cell (p := ad.add K) (cell_lt hcell)).trans hcell
    have hp1 := hp.bt hb1
    have HF := Lib.hid (Lib.fresh_isBuilder 155 5 w)
    have HI1 := Lib.hid (itoa_any t (w.alloc (.cells #[.pointer none, .slice none 0 0] 155)) (by omega) hp1)
    have hz1 : w.heap.size ≤ (w.alloc (.cells #[.pointer none, .slice none 0 0] 155)).heap.size := hb1.size
    have htl : (tx t).size ≤ 6 := by
      rw [tx_size]
      exact (Na.dec_len (by omega)).2 (by omega)
    have HPW := Lib.hid (fun (v : World) (hb : Below w.heap.size w v) => hp.bt hb)
    clear ht hpos hcell hp
    go_enter Tryz.func117, Tryz.ntmps117
    go_wp2_with fail
    refine HZ.out.mono ?_
    rintro e w1 ⟨rfl, rfl⟩
    go_wp2_with fail
    refine HI1.out.mono ?_
    rintro e w2 ⟨rfl, hb2⟩
    have hB2 := builder_below HF.out hb2
    have hbw2 := Nb hb1 hb2
    have hp2 := hp1.bt hb2
    go_wp2_with fail
    refine (writeString_any w.heap.size w.heap.size [] (tx t) w2 hB2 (by simp; omega) hbw2.size).mono ?_
    rintro e w3 ⟨rfl, hB3, hb3⟩
    have hbw3 : Below w.heap.size w w3 := hbw2.trans hb3
    have hp3 : Pow w3.heap.size w3 := HPW.out w3 hbw3
    rw [List.nil_append] at hB3
    have HB3 := Lib.hid hB3
    clear hB3 hB2 HF hc1
    go_wp2_with fail
    have HTX : Hid (∀ j, (tx (Na.lv ((Na.lim n).drop j))).size ≤ 6 * 1001) := by
      refine Lib.hid fun j => ?_
      rw [tx_size]
      refine (Na.dec_len (by omega)).2 ?_
      have h1 : n < 1000000 ^ (Na.lim n).length := Na.lim_length.1 (Nat.le_refl _)
      have h2 := Nat.pow_le_pow_right (n := 10) (by omega) (show 6 * (Na.lim n).length ≤ 6 * 1001 by omega)
      have h4 : Na.lv ((Na.lim n).drop j) ≤ n := by
        rw [Na.lv_drop_all]
        exact Nat.div_le_self _ _
      rw [pow6] at h1
      exact Nat.lt_of_le_of_lt h4 (Nat.lt_of_lt_of_le h1 h2)
    go_loopw [4] (fun i wr => ∃ j : Nat, j ≤ K ∧ i = .int .i64 ((j : Int) - 1) ∧ Hid (0 < Na.lv ((Na.lim n).drop j)) ∧ Hid (Lib.IsBuilder 155 5 w.heap.size w.heap.size (Lib.strCells (tx (Na.lv ((Na.lim n).drop j)))) wr) ∧ Below w.heap.size w wr) (fun i _ => (intOf i + 1).toNat)
    case atStart => exact ⟨K, Nat.le_refl _, by congr 1; omega, Lib.hid (by rw [H0.out]; omega), Lib.hid (by rw [H0.out]; exact HB3.out), hbw3⟩
    case round =>
      clear HB3 hbw3 hp3 hb3 hb2 hbw2 hp2 hp1 hb1 HI1 H0
      obtain ⟨j, hj, eij, HPOS, HB, hb⟩ := hrel
      by_cases h0 : j = 0
      · subst h0
        subst eij
        have hbs : Lib.IsBuilder 155 5 w.heap.size w.heap.size (Lib.byteCells (Lib.decDigits n)) wr := by
          have := HB.out
          rw [List.drop_zero, HLV.out] at this
          exact this
        have BS := Lib.hid (Tryz.Builder_String_any w.heap.size w.heap.size (Lib.decDigits n) wr hbs hb.size)
        clear hbs
        go_wp2_with fail
        refine BS.out.mono ?_
        rintro e w5 ⟨rfl, hb5⟩
        go_wp2_with fail
        go_ret
        exact ⟨rfl, hb.trans hb5⟩
      · obtain ⟨i, rfl⟩ : ∃ i, j = i + 1 := ⟨j - 1, by omega⟩
        obtain rfl := eij.trans (show Value.int .i64 (((i + 1 : Nat) : Int) - 1) = .int .i64 (i : Int) by congr 1; omega)
        clear eij
        obtain ⟨ad', e, _, hcx⟩ := (HS.out.bt hb) i (by omega)
        cases e
        have hxl := HGL.out i (by omega)
        have hLD := HLD.out i (by omega)
        obtain ⟨x, hx⟩ : ∃ x, x = (Na.lim n).getD i 0 := ⟨_, rfl⟩
        rw [← hx] at hcx hxl hLD
        have IT := Lib.hid (itoa_any (1000000 + x) wr (by omega) (HPW.out wr hb))
        obtain ⟨sd, hsd⟩ : ∃ sd : ByteArray, sd = ⟨(Lib.decDigits (1000000 + x)).toArray⟩ := ⟨_, rfl⟩
        rw [← hsd] at IT
        have hp6 := Na.pad6_facts x hxl
        have hsz7 : sd.size = 7 := by
          rw [hsd, bsizeN]
          have : ((Lib.decDigits (1000000 + x)).drop 1).length = 6 := hp6.1
          rw [List.length_drop] at this
          omega
        have HSD := Lib.hid hsd
        have hix : ((1000000 : Int) + (x : Int)) = ((1000000 + x : Nat) : Int) := by omega
        have HIX := Lib.hid hix
        have HLD' := Lib.hid hLD
        have hik : (i : Int) < (K : Int) + 1 := by omega
        clear hx hsd hp6 hix hLD
        go_wp2_with fail
        rw [HIX.out]
        refine IT.out.mono ?_
        rintro e w5 ⟨rfl, hb5⟩
        have hb5w := Nb hb hb5
        have HB5 := Lib.hid (builder_below HB.out hb5)
        go_wp2_with fail
        have hlen : (Lib.strCells (tx (Na.lv ((Na.lim n).drop (i + 1))))).length + (sd.extract 1 7).size ≤ 140737488355328 := by
          rw [Lib.strCells_length, ByteArray.size_extract]
          have := HTX.out (i + 1)
          omega
        have WS := Lib.hid (writeString_any w.heap.size w.heap.size _ (sd.extract 1 7) w5 HB5.out hlen hb5w.size)
        have HCE : Hid (Lib.strCells (tx (Na.lv ((Na.lim n).drop (i + 1)))) ++ Lib.strCells (sd.extract 1 7) = Lib.strCells (tx (Na.lv ((Na.lim n).drop i)))) := by
          refine Lib.hid ?_
          have h1 : (sd.extract 1 7).data.toList = Na.pad6 x := by
            rw [HSD.out]
            have h7 := hsz7
            rw [HSD.out, bsizeN] at h7
            rw [ByteArray.data_extract, Array.toList_extract]
            unfold Na.pad6
            simp only [List.extract_eq_take_drop]
            rw [List.take_of_length_le (by rw [List.length_drop, h7]; omega)]
          unfold Lib.strCells
          rw [← List.map_append, h1]
          congr 1
          rw [HLD'.out]
          unfold tx
          rw [Na.dec_step _ x HPOS.out hxl]
        clear hlen
        go_wp2_with fail
        refine WS.out.mono ?_
        rintro e w6 ⟨rfl, hB6, hb6⟩
        have HB6 := Lib.hid hB6
        clear hB6
        go_wp2_with fail
        refine ⟨⟨i, by omega, by go_num, Lib.hid (by rw [HLD'.out]; have := HPOS.out; omega), Lib.hid (by rw [← HCE.out]; exact HB6.out), hb5w.trans hb6⟩, by simp [intOf]⟩
end Go.Proofs.YtkbncdcphohmiaaGreatDoor

/- The number of a text; the greatest common divisor. -/
set_option linter.unusedSimpArgs false
set_option linter.unusedVariables false
namespace Go.Proofs.YtkbncdcphohmiaaGreatDoor
open Go.RowKit
set_option maxRecDepth 100000

set_option maxHeartbeats 1000000 in
theorem divisor_any (A A' : Option Addr) (m n c c' : Nat) (w : World) (hs : Ints w w.heap.size A (Na.lim m)) (hs' : Ints w w.heap.size A' (Na.lim n)) (hl : (Na.lim m).length ≤ 60) (hl' : (Na.lim n).length ≤ 60) (hc : (Na.lim m).length ≤ c) (hcm : c ≤ maxLen) (hc' : (Na.lim n).length ≤ c') (hcm' : c' ≤ maxLen) :
    Calls Tryz.prog 133 #[.slice A (Na.lim m).length c, .slice A' (Na.lim n).length c'] w (GivesN (Nat.gcd m n) w) := by
  have HS := Lib.hid hs
  have HS' := Lib.hid hs'
  unfold GivesN
  clear hs hs'
  go_enter Tryz.func133, Tryz.ntmps133
  go_wp2
  go_loopg [0, 1] n (fun gf a b wr => ∃ (x y : Nat) (Ax Ay : Option Addr) (cx cy : Nat), y ≤ gf ∧ a = .slice Ax (Na.lim x).length cx ∧ b = .slice Ay (Na.lim y).length cy ∧ Hid (Ints wr wr.heap.size Ax (Na.lim x)) ∧ Hid (Ints wr wr.heap.size Ay (Na.lim y)) ∧ (Na.lim x).length ≤ 60 ∧ (Na.lim y).length ≤ 60 ∧ (Na.lim x).length ≤ cx ∧ cx ≤ maxLen ∧ (Na.lim y).length ≤ cy ∧ cy ≤ maxLen ∧ Hid (Nat.gcd x y = Nat.gcd m n) ∧ Below w.heap.size w wr)
  case atStart => exact ⟨m, n, A, A', c, c', Nat.le_refl _, rfl, rfl, HS, HS', hl, hl', hc, hcm, hc', hcm', Lib.hid rfl, Below.refl _ _⟩
  case round =>
    obtain ⟨x, y, Ax, Ay, cx, cy, hy, rfl, rfl, HX, HY, hlx, hly, hcx, hcxm, hcy, hcym, HG, hb⟩ := hrel
    have HZ := Lib.hid (isZero_any Ay (Na.lim y).length cy wr)
    rw [isZero_lim] at HZ
    by_cases h0 : y = 0
    · rw [decide_eq_true h0] at HZ
      have hg : Nat.gcd m n = x := by rw [← HG.out, h0, Nat.gcd_zero_right]
      have HGG := Lib.hid hg
      clear h0 hg HG
      go_wp2_with fail
      refine HZ.out.mono ?_
      rintro e w1 ⟨rfl, rfl⟩
      go_wp2_with fail
      go_ret
      rw [HGG.out]
      exact ⟨Ax, cx, rfl, HX.out, hcx, hcxm, hb⟩
    · rw [decide_eq_false h0] at HZ
      have DV := Lib.hid (divided_any Ax Ay x y cx cy wr HX.out HY.out hlx hly hcx hcxm hcy hcym (by omega))
      have hmod : x % y < y := Nat.mod_lt _ (by omega)
      have HM := Lib.hid (And.intro hmod (show Nat.gcd y (x % y) = Nat.gcd m n by rw [← HG.out, Nat.gcd_comm x y, Nat.gcd_rec y x, Nat.gcd_comm]))
      have hlm : (Na.lim (x % y)).length ≤ (Na.lim y).length := Na.lim_length.2 (Nat.lt_trans hmod (Na.lim_length.1 (Nat.le_refl _)))
      clear hmod HG
      go_wp2_with fail
      refine HZ.out.mono ?_
      rintro e w1 ⟨rfl, rfl⟩
      go_wp2_with fail
      refine DV.out.mono ?_
      rintro e w2 ⟨Aq, cq, Ar, cr, rfl, hq, _, _, hr, hrc, hrcm, hb2⟩
      have HR := Lib.hid hr
      have HY2 := Lib.hid (HY.out.bt hb2)
      clear hq hr
      obtain ⟨g', rfl⟩ : ∃ g', gk = g' + 1 := ⟨gk - 1, by omega⟩
      have hyg : x % y ≤ g' := by have := HM.out.1; omega
      go_wp2_with fail
      go_roundg g'
      case measure => omega
      case rel => exact ⟨y, x % y, Ay, Ar, cy, cr, hyg, rfl, rfl, HY2, HR, hly, Nat.le_trans hlm hly, hcy, hcym, hrc, hrcm, Lib.hid HM.out.2, Nb hb hb2⟩

def OwnV (w : World) (B : Nat) (v : Value) (l : List Int) : Prop := w.ownsRow B 3 1 v l.length (l.map (Value.int .i64))

theorem OwnV.below {w w' : World} {B : Nat} {v : Value} {l : List Int} (h : OwnV w B v l) (hb : Below w.heap.size w w') : OwnV w' B v l := by
  unfold OwnV at h ⊢
  refine World.ownsRow.kept h (row := none) ⟨hb.os, hb.tape, hb.output, hb.size, fun i hi _ => hb.block i hi⟩ ?_
  cases h : v.ownBlock with
  | none => exact .inl rfl
  | some g => exact .inr (by simp)

theorem OwnV.form {w : World} {B : Nat} {v : Value} {l : List Int} (h : OwnV w B v l) (h0 : l ≠ []) : ∃ g c, v = .slice (some ⟨g, 0, none⟩) l.length c ∧ OwnZ w B g c l := by
  have h' := h
  rcases h.2 with ⟨_, hn⟩ | ⟨g, cap, cur, rfl, _⟩
  · exact absurd (List.eq_nil_of_length_eq_zero hn) h0
  · exact ⟨g, cap, rfl, h'⟩

theorem val_take (l : List UInt8) (st j : Nat) (h : st + j < l.length) : Na.val ((l.drop st).take (j + 1)) = Na.val ((l.drop st).take j) * 10 + Na.dv (l[st + j]) := by
  have e : (l.drop st).take (j + 1) = (l.drop st).take j ++ [l[st + j]] := by
    rw [List.take_add_one, List.getElem?_drop, List.getElem?_eq_getElem h]
    rfl
  rw [e, Na.val_snoc]

theorem val_take_lt (l : List UInt8) (st j : Nat) (hl : l.all Na.isD = true) (hj : j ≤ 6) : Na.val ((l.drop st).take j) < 1000000 := by
  have h1 := Na.val_lt ((l.drop st).take j) (List.all_eq_true.2 fun c hc => List.all_eq_true.1 hl c (List.mem_of_mem_drop (List.mem_of_mem_take hc)))
  have h2 : 10 ^ ((l.drop st).take j).length ≤ 10 ^ 6 := Nat.pow_le_pow_right (by omega) (by rw [List.length_take]; omega)
  omega

theorem val_split (l : List UInt8) (st en : Nat) (h1 : st ≤ en) (h2 : en ≤ l.length) : Na.val (l.drop st) = Na.val ((l.drop st).take (en - st)) * 10 ^ (l.length - en) + Na.val (l.drop en) := by
  have e : l.drop st = (l.drop st).take (en - st) ++ l.drop en := by
    have := List.take_append_drop (en - st) (l.drop st)
    rw [List.drop_drop, show st + (en - st) = en by omega] at this
    exact this.symm
  have := Na.val_append ((l.drop st).take (en - st)) (l.drop en)
  rw [← e, List.length_drop] at this
  exact this

theorem lv_snoc (p : List Nat) (x : Nat) : Na.lv (p ++ [x]) = Na.lv p + 1000000 ^ p.length * x := by
  rw [Na.lv_append, Na.lv_cons, Na.lv_nil, Nat.mul_zero, Nat.add_zero]

set_option maxHeartbeats 1000000 in
theorem numberOf_any (s : ByteArray) (w : World) (hN : Na.isN s.data.toList = true) (hz : s.size ≤ 300) :
    Calls Tryz.prog 152 #[.string s] w (GivesN (Na.val s.data.toList) w) := by
  have hall := Na.isN_all hN
  have hpos : 0 < s.size := by simpa using Na.isN_pos hN
  have hlen : s.data.toList.length = s.size := by simp
  have hvt : ∀ st j a (ha : a = st + j) (h : a < s.size), ∃ d : Nat, d < 10 ∧ s[a].toNat = 48 + d ∧ Na.val ((s.data.toList.drop st).take (j + 1)) = Na.val ((s.data.toList.drop st).take j) * 10 + d := by
    intro st j a ha h
    subst ha
    have h1 : Na.isD (s.data.toList[st + j]'(by rw [hlen]; exact h)) = true := List.all_eq_true.1 hall _ (List.getElem_mem _)
    have e : s[st + j] = s.data.toList[st + j]'(by rw [hlen]; exact h) := rfl
    have h2 := (Na.isD_iff _).1 h1
    refine ⟨Na.dv (s.data.toList[st + j]'(by rw [hlen]; exact h)), Na.dv_lt h1, ?_, val_take _ st j (by rw [hlen]; exact h)⟩
    rw [e]
    unfold Na.dv
    omega
  have HALL := Lib.hid hall
  have HVT := Lib.hid hvt
  have HVL := Lib.hid (fun st j hj => val_take_lt s.data.toList st j hall hj)
  have HVS := Lib.hid (fun st en h1 h2 => val_split s.data.toList st en h1 (by rw [hlen]; exact h2))
  rw [hlen] at HVS
  have HDA := Lib.hid (show s.data.toList.drop s.size = [] by rw [← hlen]; simp)
  unfold GivesN
  generalize s.data.toList = l at *
  clear hN hall hlen hvt
  go_enter Tryz.func152, Tryz.ntmps152
  go_wp2
  go_loopw [3, 4] (fun v e wr => ∃ (k : Nat) (p : List Nat), e = .int .i64 ((s.size : Int) - 6 * (k : Int)) ∧ 6 * k ≤ s.size + 5 ∧ Hid (p.length = k) ∧ Hid (∀ d ∈ p, d < 1000000) ∧ Hid (OwnV wr w.heap.size v (p.map fun d : Nat => (d : Int))) ∧ Hid (Na.lv p = Na.val (l.drop (s.size - 6 * k))) ∧ Below w.heap.size w wr) (fun _ e _ => (intOf e).toNat)
  case atStart => exact ⟨0, [], by first | rfl | (congr 1; omega), by omega, Lib.hid rfl, Lib.hid (by simp), Lib.hid (World.ownsRow_nil w _ _ _), Lib.hid (by simp only [Nat.mul_zero, Nat.sub_zero]; rw [HDA.out, Na.val_nil, Na.lv_nil]), Below.refl _ _⟩
  case round =>
    obtain ⟨k, p, eij, hk, HPL, HPD, HO, HV, hb⟩ := hrel
    by_cases h0 : s.size ≤ 6 * k
    · subst eij
      have hk0 : 0 < k := by omega
      have hpn : (p.map fun d : Nat => (d : Int)) ≠ [] := by
        intro e
        have := HPL.out
        rw [List.map_eq_nil_iff.1 e] at this
        simp at this
        omega
      obtain ⟨g, c, rfl, ho⟩ := HO.out.form hpn
      have hml : (p.map fun d : Nat => (d : Int)).length = p.length := by simp
      have hv : Na.lv p = Na.val l := by
        rw [HV.out, show s.size - 6 * k = 0 by omega, List.drop_zero]
      have hf := ho.facts
      rw [hml] at hf
      have TR := Lib.hid (trimmed_any (some ⟨g, 0, none⟩) p c wr (ho.ints rfl) (by rw [HPL.out]; omega) hf.2.2.1 hf.2.2.2 HPD.out)
      have HI := Lib.hid (ho.lim HPD.out)
      have hle : (Na.lim (Na.lv p)).length ≤ c := by
        refine Nat.le_trans ?_ hf.2.2.1
        have := Na.lim_take p HPD.out
        rw [this, List.length_take]
        omega
      rw [hv] at TR HI hle
      rw [hml]
      clear hpn ho hv hml HO HV HPD
      go_wp2_with fail
      refine TR.out.mono ?_
      rintro e w1 ⟨rfl, rfl⟩
      go_wp2_with fail
      go_ret
      exact ⟨_, c, rfl, HI.out, hle, hf.2.2.2, hb⟩
    · obtain ⟨en, hen⟩ : ∃ en, en = s.size - 6 * k := ⟨_, rfl⟩
      obtain rfl := eij.trans (show Value.int .i64 ((s.size : Int) - 6 * (k : Int)) = .int .i64 (en : Int) by congr 1; omega)
      clear eij
      have hen0 : 0 < en := by omega
      have hens : en ≤ s.size := by omega
      obtain ⟨st, hst⟩ : ∃ st, st = en - 6 := ⟨_, rfl⟩
      have hmx : (6 < en ∧ (en : Int) - 6 = (st : Int)) ∨ (en ≤ 6 ∧ st = 0) := by omega
      rw [← hen] at HV
      have hkk : 6 * (k + 1) ≤ s.size + 5 := by omega
      have HEND := Lib.hid (And.intro (show s.size - 6 * (k + 1) = st by omega) (And.intro (show s.size - en = 6 * k by omega) (show (en : Int) - 6 = (s.size : Int) - 6 * ((k + 1 : Nat) : Int) by omega)))
      clear hen hk h0
      rcases hmx with ⟨h6, hsi⟩ | ⟨h6, hs0⟩
      · have HSI := Lib.hid hsi
        go_wp2
        go_loop [5, 6] (fun q i => ∃ j v : Nat, j ≤ en - st ∧ i = .int .i64 ((st + j : Nat) : Int) ∧ q = .int .i64 (v : Int) ∧ v < 1000000 ∧ Hid (v = Na.val ((l.drop st).take j))) (fun _ i => en - (intOf i).toNat)
        case atStart => exact ⟨0, 0, by omega, by first | rfl | (congr 1; omega), rfl, by omega, Lib.hid (by simp [Na.val_nil])⟩
        case round =>
          obtain ⟨j, v, hj, rfl, rfl, hv, HVV⟩ := hrel
          by_cases hje : st + j < en
          · obtain ⟨a, ha⟩ : ∃ a, a = st + j := ⟨_, rfl⟩
            have hel : a < s.size := by omega
            obtain ⟨d, hd, hsd, hval⟩ := HVT.out st j a ha hel
            have hv1 := HVL.out st (j + 1) (by omega)
            rw [hval, ← HVV.out] at hv1
            have HVV' : Hid (v * 10 + d = Na.val ((l.drop st).take (j + 1))) := Lib.hid (by rw [hval, ← HVV.out])
            have hjj : j + 1 ≤ en - st := by omega
            have hae : a < en := by omega
            have hej : st + (j + 1) = a + 1 := by omega
            have HEJ := Lib.hid hej
            rw [← ha]
            clear hval hej hje ha
            go_wp2
            exact ⟨⟨j + 1, v * 10 + d, hjj, by rw [HEJ.out]; go_num, by go_num, hv1, HVV'⟩, by simp [intOf]; omega⟩
          · obtain rfl : j = en - st := by omega
            have he : st + (en - st) = en := by omega
            have hnl : (p.map fun d : Nat => (d : Int)).length + 1 ≤ 1000000 := by rw [List.length_map, HPL.out]; omega
            have hbx : Below wr.heap.size wr (wr.alloc (.cells #[.int .i64 (v : Int)] 3)) := (Below.refl _ _).alloc (Nat.le_refl _) _
            have HO2 := Lib.hid (HO.out.below hbx)
            have hbw2 := Nb hb hbx
            have HNV : Hid (Na.lv (p ++ [v]) = Na.val (l.drop st)) := Lib.hid (by
              have h1 := HVS.out st en (by omega) hens
              rw [lv_snoc, HPL.out, HV.out, h1, ← HVV.out, HEND.out.2.1, ← pow6]
              generalize Na.val (l.drop en) = t1
              generalize 1000000 ^ k = t2
              rw [Nat.mul_comm v t2]
              omega)
            rw [he]
            clear HVV he hbx HVS
            go_wp2_with (first
              | (at_builtin
                 refine list_appendZ rfl (.tmp 29) (.tmp 31) 118 rfl rfl w.heap.size _ (p.map fun d : Nat => (d : Int)) rfl HO2.out ⟨wr.heap.size, 0, none⟩ 1 1 [(v : Int)] rfl rfl (ints_src (box_ints (heap_alloc_new _ _)) (Below.refl _ _)) (by omega) hnl hbw2.size ?_
                 intro g2 c2 w2 ho2 hb2
                 have HO3 := Lib.hid ho2
                 have hbw3 := hbw2.trans hb2
                 clear ho2 hb2)
              | fail)
            refine ⟨⟨k + 1, p ++ [v], by congr 1; have := HEND.out.2.2; omega, hkk, Lib.hid (by rw [List.length_append, HPL.out]; rfl), Lib.hid ?_, Lib.hid ?_, Lib.hid ?_, hbw3⟩, ?_⟩
            · intro d hd
              rcases List.mem_append.1 hd with h | h
              · exact HPD.out d h
              · rw [show d = v by simpa using h]; exact hv
            · have := HO3.out
              unfold OwnZ at this
              unfold OwnV
              rw [List.map_append]
              simpa using this
            · rw [HNV.out, HEND.out.1]
            · simp [intOf]; omega
      · go_wp2
        go_loop [5, 6] (fun q i => ∃ j v : Nat, j ≤ en - st ∧ i = .int .i64 ((st + j : Nat) : Int) ∧ q = .int .i64 (v : Int) ∧ v < 1000000 ∧ Hid (v = Na.val ((l.drop st).take j))) (fun _ i => en - (intOf i).toNat)
        case atStart => exact ⟨0, 0, by omega, by first | rfl | (congr 1; omega), rfl, by omega, Lib.hid (by simp [Na.val_nil])⟩
        case round =>
          obtain ⟨j, v, hj, rfl, rfl, hv, HVV⟩ := hrel
          by_cases hje : st + j < en
          · obtain ⟨a, ha⟩ : ∃ a, a = st + j := ⟨_, rfl⟩
            have hel : a < s.size := by omega
            obtain ⟨d, hd, hsd, hval⟩ := HVT.out st j a ha hel
            have hv1 := HVL.out st (j + 1) (by omega)
            rw [hval, ← HVV.out] at hv1
            have HVV' : Hid (v * 10 + d = Na.val ((l.drop st).take (j + 1))) := Lib.hid (by rw [hval, ← HVV.out])
            have hjj : j + 1 ≤ en - st := by omega
            have hae : a < en := by omega
            have hej : st + (j + 1) = a + 1 := by omega
            have HEJ := Lib.hid hej
            rw [← ha]
            clear hval hej hje ha
            go_wp2
            exact ⟨⟨j + 1, v * 10 + d, hjj, by rw [HEJ.out]; go_num, by go_num, hv1, HVV'⟩, by simp [intOf]; omega⟩
          · obtain rfl : j = en - st := by omega
            have he : st + (en - st) = en := by omega
            have hnl : (p.map fun d : Nat => (d : Int)).length + 1 ≤ 1000000 := by rw [List.length_map, HPL.out]; omega
            have hbx : Below wr.heap.size wr (wr.alloc (.cells #[.int .i64 (v : Int)] 3)) := (Below.refl _ _).alloc (Nat.le_refl _) _
            have HO2 := Lib.hid (HO.out.below hbx)
            have hbw2 := Nb hb hbx
            have HNV : Hid (Na.lv (p ++ [v]) = Na.val (l.drop st)) := Lib.hid (by
              have h1 := HVS.out st en (by omega) hens
              rw [lv_snoc, HPL.out, HV.out, h1, ← HVV.out, HEND.out.2.1, ← pow6]
              generalize Na.val (l.drop en) = t1
              generalize 1000000 ^ k = t2
              rw [Nat.mul_comm v t2]
              omega)
            rw [he]
            clear HVV he hbx HVS
            go_wp2_with (first
              | (at_builtin
                 refine list_appendZ rfl (.tmp 29) (.tmp 31) 118 rfl rfl w.heap.size _ (p.map fun d : Nat => (d : Int)) rfl HO2.out ⟨wr.heap.size, 0, none⟩ 1 1 [(v : Int)] rfl rfl (ints_src (box_ints (heap_alloc_new _ _)) (Below.refl _ _)) (by omega) hnl hbw2.size ?_
                 intro g2 c2 w2 ho2 hb2
                 have HO3 := Lib.hid ho2
                 have hbw3 := hbw2.trans hb2
                 clear ho2 hb2)
              | fail)
            refine ⟨⟨k + 1, p ++ [v], by congr 1; have := HEND.out.2.2; omega, hkk, Lib.hid (by rw [List.length_append, HPL.out]; rfl), Lib.hid ?_, Lib.hid ?_, Lib.hid ?_, hbw3⟩, ?_⟩
            · intro d hd
              rcases List.mem_append.1 hd with h | h
              · exact HPD.out d h
              · rw [show d = v by simpa using h]; exact hv
            · have := HO3.out
              unfold OwnZ at this
              unfold OwnV
              rw [List.map_append]
              simpa using this
            · rw [HNV.out, HEND.out.1]
            · simp [intOf]; omega
end Go.Proofs.YtkbncdcphohmiaaGreatDoor

/- Is, Of and Int of the program. -/
set_option linter.unusedSimpArgs false
set_option linter.unusedVariables false
namespace Go.Proofs.YtkbncdcphohmiaaGreatDoor
open Go.RowKit
set_option maxRecDepth 100000

theorem bytes_ne {x y : ByteArray} (h : x ≠ y) : (x.toList == y.toList) = false := by
  rw [beq_eq_false_iff_ne]
  intro e
  rw [ByteArray.toList_eq, ByteArray.toList_eq] at e
  exact h (ByteArray.ext (Array.toList_inj.1 e))

/-- A text is a natural number of at most 300 digits. -/
def isB (s : ByteArray) : Bool := Na.isN s.data.toList && decide (s.size ≤ 300)

def noD (r : Nat) : Bool := decide (r < 48) || decide (57 < r)

theorem decode_low (s : ByteArray) (i : Nat) (h : (s.get! i).toNat < 128) : Utf8.decode s i = ((s.get! i).toNat, 1) := by
  unfold Utf8.decode
  simp [h]

theorem decode_high (s : ByteArray) (i : Nat) (h : ¬ (s.get! i).toNat < 128) : 128 ≤ (Utf8.decode s i).1 := by
  unfold Utf8.decode
  simp only [Nat.add_zero]
  rw [if_neg h]
  split
  · split <;> simp [Utf8.runeError] <;> omega
  · split
    · split <;> rename_i h2 <;> simp [Utf8.runeError] <;> simp at h2 <;> omega
    · split
      · split <;> rename_i h2 <;> simp [Utf8.runeError] <;> simp at h2 <;> omega
      · simp [Utf8.runeError]

theorem idx_from (s : ByteArray) : ∀ f pos, s.size ≤ pos + f → (Lib.idxFuncFrom noD true s f pos = -1 ↔ ∀ i, pos ≤ i → i < s.size → Na.isD (s.get! i) = true)
  | 0, pos, h => by
    simp only [Lib.idxFuncFrom, true_iff]
    intro i h1 h2
    omega
  | f + 1, pos, h => by
    unfold Lib.idxFuncFrom
    by_cases hp : pos < s.size
    · rw [if_pos hp]
      by_cases hd : Na.isD (s.get! pos) = true
      · have h1 := (Na.isD_iff _).1 hd
        have h2 := decode_low s pos (by omega)
        rw [h2]
        have h3 : ¬ (noD (s.get! pos).toNat = true) := by simp [noD]; omega
        rw [if_neg h3, idx_from s f (pos + 1) (by omega)]
        constructor
        · intro hh i h4 h5
          rcases Nat.eq_or_lt_of_le h4 with rfl | h6
          · exact hd
          · exact hh i (by omega) h5
        · intro hh i h4 h5
          exact hh i (by omega) h5
      · have h3 : noD (Utf8.decode s pos).1 = true := by
          by_cases hl : (s.get! pos).toNat < 128
          · rw [decode_low s pos hl]
            have := mt (Na.isD_iff _).2 hd
            simp [noD]
            omega
          · have := decode_high s pos hl
            simp [noD]
            omega
        rw [if_pos h3]
        constructor
        · intro e; omega
        · intro hh
          exact absurd (hh pos (Nat.le_refl _) hp) hd
    · rw [if_neg hp]
      simp only [true_iff]
      intro i h1 h2
      omega

theorem get_bang (s : ByteArray) (i : Nat) (h : i < s.size) : s.get! i = s.data.toList[i]'(by simpa using h) := by
  have h2 : i < s.data.size := h
  simp only [ByteArray.get!, Array.getElem_toList]
  exact getElem!_pos s.data i h2

theorem idx_all (s : ByteArray) : decide (0 ≤ Lib.idxFunc noD true s) = !(s.data.toList.all Na.isD) := by
  have h1 := idx_from s s.size 0 (by omega)
  have h2 : (∀ i, 0 ≤ i → i < s.size → Na.isD (s.get! i) = true) ↔ s.data.toList.all Na.isD = true := by
    rw [List.all_eq_true]
    constructor
    · intro hh c hc
      obtain ⟨i, hi, rfl⟩ := List.getElem_of_mem hc
      have hi' : i < s.size := by simpa using hi
      rw [← get_bang s i hi']
      exact hh i (by omega) hi'
    · intro hh i _ hi
      rw [get_bang s i hi]
      exact hh _ (List.getElem_mem _)
  rw [h2] at h1
  have h3 := Lib.idxFunc_range noD true s
  unfold Lib.idxFunc at *
  cases hb : s.data.toList.all Na.isD
  · rw [hb] at h1
    have : ¬ Lib.idxFuncFrom noD true s s.size 0 = -1 := fun e => by simpa using h1.1 e
    simp
    omega
  · rw [hb] at h1
    have := h1.2 rfl
    rw [this]
    decide

theorem noDigit_any (x : Nat) (w : World) :
    Calls Tryz.prog 159 #[.int .i32 (x : Int)] w fun e w' => e = .returned (.bool (noD x)) ∧ w = w' := by
  by_cases h1 : x < 48
  · have h2 : (x : Int) < 48 := by omega
    go_enter Tryz.func159, Tryz.ntmps159
    go_wp2
    go_ret
    exact ⟨by simp [noD, h1], rfl⟩
  · have h2 : ¬ (x : Int) < 48 := by omega
    by_cases h3 : 57 < x
    · have h4 : (57 : Int) < (x : Int) := by omega
      go_enter Tryz.func159, Tryz.ntmps159
      go_wp2
      go_ret
      exact ⟨by simp [noD, h1, h3], rfl⟩
    · have h4 : ¬ (57 : Int) < (x : Int) := by omega
      go_enter Tryz.func159, Tryz.ntmps159
      go_wp2
      go_ret
      exact ⟨by simp [noD, h1, h3], rfl⟩

theorem contains_any (s : ByteArray) (w : World) :
    Calls Tryz.prog 158 #[.string s, .func (.func 159) #[] #[]] w fun e w' => e = .returned (.bool (!(s.data.toList.all Na.isD))) ∧ Below w.heap.size w w' := by
  have := Tryz.strings_ContainsFunc 159 #[] (enters_of Tryz.func159 (by kernel_rfl) rfl) noD s w (fun W x _ => (noDigit_any x W).mono fun e w' h => ⟨h.1, 0, h.2.symm⟩)
  rwa [idx_all] at this

set_option maxHeartbeats 1000000 in
theorem is_any (s : ByteArray) (w : World) (hz : s.size ≤ maxLen) :
    Calls Tryz.prog 118 #[.string s] w fun e w' => e = .returned (.bool (isB s)) ∧ Below w.heap.size w w' := by
  unfold maxLen at hz
  have CI := Lib.hid (contains_any s w)
  have hlen : s.data.toList.length = s.size := by simp
  by_cases h0 : s.size = 0
  · have hs : s = ⟨#[]⟩ := ByteArray.ext (Array.eq_empty_of_size_eq_zero h0)
    have hr : isB s = false := by subst hs; decide
    rw [hr]
    subst hs
    go_enter Tryz.func118, Tryz.ntmps118
    go_wp2_with fail
    go_ret
    exact ⟨rfl, Below.refl _ _⟩
  · have hne : s ≠ ⟨#[]⟩ := fun e => h0 (by rw [e]; rfl)
    have hb : s.toList ≠ [] := by
      rw [ByteArray.toList_eq]
      intro e
      rw [e] at hlen
      simp at hlen
      omega
    have hem : s.toList.isEmpty = false := by rw [List.isEmpty_eq_false_iff]; exact hb
    clear hne
    by_cases h3 : 300 < s.size
    · have hr : isB s = false := by unfold isB; simp; omega
      have h3i : (300 : Int) < (s.size : Int) := by omega
      rw [hr]
      go_enter Tryz.func118, Tryz.ntmps118
      go_wp2_with fail
      go_ret
      exact ⟨rfl, Below.refl _ _⟩
    · have h3i : ¬ (300 : Int) < (s.size : Int) := by omega
      have hpos : 0 < s.size := by omega
      have e0 : s.data.toList.head? = some s[0] := by
        rw [List.head?_eq_getElem?, List.getElem?_eq_getElem (by rw [hlen]; exact hpos)]
        rfl
      have HB : Hid (isB s = (s.data.toList.all Na.isD && (decide (s.size = 1) || (decide (1 < s.size) && decide (s[0].toNat ≠ 48))))) := by
        refine Lib.hid ?_
        unfold isB Na.isN
        rw [e0, hlen, decide_eq_true (show s.size ≤ 300 by omega), Bool.and_true]
        congr 3
        have : (some s[0] ≠ some (48 : UInt8)) ↔ s[0].toNat ≠ 48 := by
          rw [ne_eq, ne_eq, Option.some.injEq, ← UInt8.toNat_inj]
          rfl
        exact decide_eq_decide.2 this
      clear hlen e0
      by_cases h48 : s[0].toNat = 48
      · have h48i : ((s[0].toNat : Int) == 48) = true := by rw [h48]; rfl
        by_cases h1 : 1 < s.size
        · have hr : isB s = false := by rw [HB.out, decide_eq_true h1, h48]; simp; omega
          have h1i : (1 : Int) < (s.size : Int) := by omega
          rw [hr]
          clear HB hr
          go_enter Tryz.func118, Tryz.ntmps118
          go_wp2_with fail
          go_ret
          exact ⟨rfl, Below.refl _ _⟩
        · have hr : isB s = s.data.toList.all Na.isD := by rw [HB.out, decide_eq_true (show s.size = 1 by omega)]; simp
          have h1i : ¬ (1 : Int) < (s.size : Int) := by omega
          rw [hr]
          clear HB hr
          go_enter Tryz.func118, Tryz.ntmps118
          go_wp2_with fail
          refine CI.out.mono ?_
          rintro e w1 ⟨rfl, hb1⟩
          go_wp2_with fail
          go_ret
          exact ⟨by simp, hb1⟩
      · have h48i : ((s[0].toNat : Int) == 48) = false := by simp; omega
        have hr : isB s = s.data.toList.all Na.isD := by
          rw [HB.out, decide_eq_true (show s[0].toNat ≠ 48 from h48)]
          rcases Nat.lt_or_ge 1 s.size with h | h
          · rw [decide_eq_true h]; simp
          · rw [decide_eq_true (show s.size = 1 by omega)]; simp
        rw [hr]
        clear HB hr
        go_enter Tryz.func118, Tryz.ntmps118
        go_wp2_with fail
        refine CI.out.mono ?_
        rintro e w1 ⟨rfl, hb1⟩
        go_wp2_with fail
        go_ret
        exact ⟨by simp, hb1⟩
end Go.Proofs.YtkbncdcphohmiaaGreatDoor

/- Of, Int, numbers, operate and what is exported of them. -/
set_option linter.unusedSimpArgs false
set_option linter.unusedVariables false
namespace Go.Proofs.YtkbncdcphohmiaaGreatDoor
open Go.RowKit
set_option maxRecDepth 100000

/-- Numbers have less than 301 digits. -/
def DIGS : Nat := 300
def LIM : Nat := 10 ^ DIGS

theorem tx_isB (m : Nat) : isB (tx m) = decide (m < LIM) := by
  unfold isB tx LIM
  rw [show (⟨(Lib.decDigits m).toArray⟩ : ByteArray).data.toList = Lib.decDigits m by simp, Na.dec_isN, Bool.true_and, bsizeN]
  exact decide_eq_decide.2 (Na.dec_len (k := DIGS) (by unfold DIGS; omega))

theorem isB_tx {s : ByteArray} (h : isB s = true) : ∃ m, m < LIM ∧ s = tx m := by
  unfold isB at h
  rw [Bool.and_eq_true] at h
  have e := Na.dec_val _ h.1
  refine ⟨Na.val s.data.toList, ?_, ?_⟩
  · unfold LIM
    rw [← Na.dec_len (k := DIGS) (by unfold DIGS; omega), e]
    have h2 : s.size ≤ 300 := by simpa using h.2
    exact h2
  · unfold tx
    rw [e]

theorem tx_inj {m n : Nat} (h : tx m = tx n) : m = n := by
  unfold tx at h
  apply Na.dec_inj
  have := congrArg (fun b : ByteArray => b.data.toList) h
  simpa using this

theorem tx_facts {m : Nat} (h : m < LIM) : Na.isN (tx m).data.toList = true ∧ (tx m).size ≤ 300 ∧ Na.val (tx m).data.toList = m := by
  have h1 := tx_isB m
  rw [decide_eq_true h] at h1
  unfold isB at h1
  rw [Bool.and_eq_true] at h1
  refine ⟨h1.1, by simpa using h1.2, ?_⟩
  unfold tx
  simp [Na.val_dec]

theorem lim50 {m : Nat} (h : m < LIM) : (Na.lim m).length ≤ 50 := by
  refine Na.lim_length.2 ?_
  rw [pow6, show 6 * 50 = DIGS from rfl]
  exact h

theorem fold_ge (l : List UInt8) : ∀ acc, acc ≤ l.foldl (fun n c => n * 10 + Na.dv c) acc := by
  induction l with
  | nil => intro acc; exact Nat.le_refl _
  | cons c l ih => intro acc; rw [List.foldl_cons]; have := ih (acc * 10 + Na.dv c); omega

theorem parse_digits : ∀ (l : List UInt8) (acc : Nat), l.all Na.isD = true → acc < 18446744073709551616 →
    Lib.parseUint10 acc l = if l.foldl (fun n c => n * 10 + Na.dv c) acc < 18446744073709551616 then .ok (l.foldl (fun n c => n * 10 + Na.dv c) acc) else .range
  | [], acc, _, ha => by simp [Lib.parseUint10, ha]
  | c :: r, acc, hl, ha => by
    rw [List.all_cons, Bool.and_eq_true] at hl
    have hc := (Na.isD_iff _).1 hl.1
    rw [Lib.parseUint10, if_pos hc, List.foldl_cons]
    have hg := fold_ge r (acc * 10 + Na.dv c)
    have hdv : c.toNat - 48 = Na.dv c := rfl
    rw [hdv]
    split
    · rw [if_neg (by omega)]
    · split
      · rw [if_neg (by omega)]
      · exact parse_digits r _ hl.2 (by omega)

theorem atoi_digits (l : List UInt8) (h : Na.isN l = true) : Lib.atoiAll l = if Na.val l < 9223372036854775808 then .ok (Na.val l : Int) else .range := by
  have hall := Na.isN_all h
  have hp := parse_digits l 0 hall (by omega)
  cases l with
  | nil => simp [Na.isN] at h
  | cons c r =>
    have hc := (Na.isD_iff _).1 (List.all_eq_true.1 hall c List.mem_cons_self)
    have hv : (c :: r).foldl (fun n c => n * 10 + Na.dv c) 0 = Na.val (c :: r) := rfl
    rw [hv] at hp
    have hm : Lib.parseMag (c :: r) = if Na.val (c :: r) < 18446744073709551616 then .ok (Na.val (c :: r)) else .range := by
      unfold Lib.parseMag
      rw [if_neg (by simp)]
      exact hp
    unfold Lib.atoiAll
    have n1 : ¬ (c.toNat = 43 ∨ c.toNat = 45) := by omega
    have n2 : ¬ c.toNat = 45 := by omega
    have n3 : ¬ c.toNat = 43 := by omega
    simp only [n2, n3, or_self, if_false, hm]
    generalize Na.val (c :: r) = v
    by_cases h1 : v < 18446744073709551616
    · rw [if_pos h1]
      by_cases h2 : v < 9223372036854775808
      · simp [h2, Nat.not_le.2 h2]
      · simp [h2, Nat.not_lt.1 h2]
    · rw [if_neg h1]
      simp only []
      rw [if_neg (by omega)]

theorem int_bad (s : ByteArray) (w : World) (hz : s.size ≤ maxLen) (h : isB s = false) :
    Calls Tryz.prog 82 #[.string s] w fun e w' => e = .returned (.tuple #[.int .i64 0, .int .i64 1]) ∧ Below w.heap.size w w' := by
  have HI := Lib.hid (is_any s w hz)
  rw [h] at HI
  go_enter Tryz.func82, Tryz.ntmps82
  go_wp2_with fail
  refine HI.out.mono ?_
  rintro e w1 ⟨rfl, hb1⟩
  go_wp2_with fail
  go_ret2
  exact ⟨rfl, hb1⟩

theorem tx_len {m : Nat} (h : m < LIM) : (tx m).size ≤ maxLen := by
  have := (tx_facts h).2.1
  unfold maxLen
  omega

theorem int_ok (m : Nat) (w : World) (h : m < LIM) (hm : m < 9223372036854775808) :
    Calls Tryz.prog 82 #[.string (tx m)] w fun e w' => e = .returned (.tuple #[.int .i64 (m : Int), .int .i64 0]) ∧ Below w.heap.size w w' := by
  have HI := Lib.hid (is_any (tx m) w (tx_len h))
  obtain ⟨f1, f2, f3⟩ := tx_facts h
  rw [tx_isB, decide_eq_true h] at HI
  have e := atoi_digits _ f1
  rw [f3, if_pos hm] at e
  have HA := Lib.hid (fun w => Tryz.strconv_Atoi_ok (tx m) (by omega) m e w)
  clear e f1 f3
  go_enter Tryz.func82, Tryz.ntmps82
  go_wp2_with fail
  refine HI.out.mono ?_
  rintro e w1 ⟨rfl, hb1⟩
  go_wp2_with fail
  refine (HA.out w1).mono ?_
  rintro e w2 ⟨rfl, hw2⟩
  have hb2 : Below w1.heap.size w1 w2 := by
    rcases hw2 with rfl | ⟨t, rfl⟩
    · exact Below.refl _ _
    · exact Lib.bytesWorld_below _ _ _
  clear hw2
  go_wp2_with fail
  go_ret2
  exact ⟨rfl, Nb hb1 hb2⟩

theorem int_range (m : Nat) (w : World) (h : m < LIM) (hm : ¬ m < 9223372036854775808) (hp : Pow w.heap.size w) :
    Calls Tryz.prog 82 #[.string (tx m)] w fun e w' => e = .returned (.tuple #[.int .i64 0, .int .i64 10]) ∧ Below w.heap.size w w' := by
  have HI := Lib.hid (is_any (tx m) w (tx_len h))
  obtain ⟨f1, f2, f3⟩ := tx_facts h
  rw [tx_isB, decide_eq_true h] at HI
  have e := atoi_digits _ f1
  rw [f3, if_neg hm] at e
  obtain ⟨te, pe, hc⟩ := hp.2.2.1
  have HA := Lib.hid (fun w1 (hb1 : Below w.heap.size w w1) => Tryz.strconv_Atoi_range (tx m) (by omega) e (.iface te pe) w1 ((hb1.cell (p := ⟨4, 0, none⟩) hp.2.2.2).trans hc) (.inr ⟨te, pe, rfl⟩))
  clear e f1 f3 hc
  go_enter Tryz.func82, Tryz.ntmps82
  go_wp2_with fail
  refine HI.out.mono ?_
  rintro e w1 ⟨rfl, hb1⟩
  go_wp2_with fail
  refine (HA.out w1 hb1).mono ?_
  rintro e w2 ⟨N, rfl, _, _, hb2⟩
  go_wp2_with fail
  go_ret2
  exact ⟨rfl, Nb hb1 hb2⟩

theorem numbers_bad (s t : ByteArray) (w : World) (hs : s.size ≤ maxLen) (ht : t.size ≤ maxLen) (h : (isB s && isB t) = false) :
    Calls Tryz.prog 114 #[.string s, .string t] w fun e w' => e = .returned (.tuple #[.slice none 0 0, .slice none 0 0, .int .i64 1]) ∧ Below w.heap.size w w' := by
  have H1 := Lib.hid (is_any s w hs)
  have H2 := Lib.hid (fun w => is_any t w ht)
  cases hb : isB s
  · rw [hb] at H1
    go_enter Tryz.func114, Tryz.ntmps114
    go_wp2_with fail
    refine H1.out.mono ?_
    rintro e w1 ⟨rfl, hb1⟩
    go_wp2_with fail
    go_ret3
    exact ⟨rfl, hb1⟩
  · have hbt : isB t = false := by rw [hb] at h; simpa using h
    rw [hb] at H1
    rw [hbt] at H2
    go_enter Tryz.func114, Tryz.ntmps114
    go_wp2_with fail
    refine H1.out.mono ?_
    rintro e w1 ⟨rfl, hb1⟩
    go_wp2_with fail
    refine (H2.out w1).mono ?_
    rintro e w2 ⟨rfl, hb2⟩
    go_wp2_with fail
    go_ret3
    exact ⟨rfl, Nb hb1 hb2⟩

def GivesNN (m n : Nat) (w : World) (e : Ending) (w' : World) : Prop :=
  ∃ A c A' c', e = .returned (.tuple #[.slice A (Na.lim m).length c, .slice A' (Na.lim n).length c', .int .i64 0]) ∧ Ints w' w'.heap.size A (Na.lim m) ∧ (Na.lim m).length ≤ c ∧ c ≤ maxLen ∧ Ints w' w'.heap.size A' (Na.lim n) ∧ (Na.lim n).length ≤ c' ∧ c' ≤ maxLen ∧ Below w.heap.size w w'

theorem numbers_ok (m n : Nat) (w : World) (hm : m < LIM) (hn : n < LIM) :
    Calls Tryz.prog 114 #[.string (tx m), .string (tx n)] w (GivesNN m n w) := by
  unfold GivesNN
  have H1 := Lib.hid (is_any (tx m) w (tx_len hm))
  have H2 := Lib.hid (fun w => is_any (tx n) w (tx_len hn))
  rw [tx_isB, decide_eq_true hm] at H1
  rw [tx_isB, decide_eq_true hn] at H2
  have N1 := Lib.hid (fun w => numberOf_any (tx m) w (tx_facts hm).1 (tx_facts hm).2.1)
  have N2 := Lib.hid (fun w => numberOf_any (tx n) w (tx_facts hn).1 (tx_facts hn).2.1)
  rw [(tx_facts hm).2.2] at N1
  rw [(tx_facts hn).2.2] at N2
  go_enter Tryz.func114, Tryz.ntmps114
  go_wp2_with fail
  refine H1.out.mono ?_
  rintro e w1 ⟨rfl, hb1⟩
  go_wp2_with fail
  refine (H2.out w1).mono ?_
  rintro e w2 ⟨rfl, hb2⟩
  go_wp2_with fail
  refine (N1.out w2).mono ?_
  rintro e w3 ⟨A, c, rfl, hi, hc, hcm, hb3⟩
  have HI := Lib.hid hi
  clear hi
  go_wp2_with fail
  refine (N2.out w3).mono ?_
  rintro e w4 ⟨A', c', rfl, hi', hc', hcm', hb4⟩
  have HI' := Lib.hid hi'
  have HI2 := Lib.hid (HI.out.bt hb4)
  clear hi'
  go_wp2_with fail
  go_ret3
  exact ⟨A, c, A', c', rfl, HI2.out, hc, hcm, HI'.out, hc', hcm', Nb (Nb (Nb hb1 hb2) hb3) hb4⟩

/-- What an operation answers whose result is R. -/
def sN (R : Nat) : ByteArray := if R < LIM then tx R else ⟨#[]⟩
def eN (R : Nat) : Int := if R < LIM then 0 else 2

theorem tx_le300 (R : Nat) : (tx R).size ≤ 300 ↔ R < LIM := by
  unfold LIM
  rw [tx_size]
  exact Na.dec_len (k := DIGS) (by unfold DIGS; omega)

theorem lt50 {m : Nat} (h : m < LIM) : m < 1000000 ^ 50 := by
  rw [pow6, show 6 * 50 = DIGS from rfl]
  exact h

set_option maxHeartbeats 1000000 in
theorem operate_add (m n : Nat) (w : World) (hm : m < LIM) (hn : n < LIM) (hp : Pow w.heap.size w) :
    Calls Tryz.prog 112 #[.string (tx m), .string (tx n), .func (.func 132) #[] #[]] w fun e w' => e = .returned (.tuple #[.string (sN (m + n)), .int .i64 (eN (m + n))]) ∧ Below w.heap.size w w' := by
  have NN := Lib.hid (numbers_ok m n w hm hn)
  have HM := Lib.hid (lim50 hm)
  have HN := Lib.hid (lim50 hn)
  have hRl : (Na.lim (m + n)).length ≤ 1000 := by
    refine Nat.le_trans ((Na.lim_length (k := 51)).2 ?_) (by omega)
    have h1 := lt50 hm
    have h2 := lt50 hn
    rw [show 51 = 50 + 1 from rfl, Nat.pow_succ]
    generalize 1000000 ^ 50 = q at *
    omega
  have TT := Lib.hid (tx_le300 (m + n))
  have TX := Lib.hid (fun A c W (hs : Ints W W.heap.size A (Na.lim (m + n))) hp => text_any A (m + n) c W hs hRl hp)
  have HPW := Lib.hid (fun (v : World) (hb : Below w.heap.size w v) => hp.bt hb)
  have OP := Lib.hid (fun W A c A' c' (h1 : Ints W W.heap.size A (Na.lim m)) (h2 : (Na.lim m).length ≤ c) (h3 : c ≤ maxLen) (h4 : Ints W W.heap.size A' (Na.lim n)) (h5 : (Na.lim n).length ≤ c') (h6 : c' ≤ maxLen) => show Calls Tryz.prog 132 #[.slice A (Na.lim m).length c, .slice A' (Na.lim n).length c'] W (GivesN (m + n) W) from by
    have := plus_any A A' (Na.lim m) (Na.lim n) c c' W h1 h4 (by have := HM.out; omega) (by have := HN.out; omega) (Na.lim_lt m) (Na.lim_lt n)
    rwa [Na.lv_lim, Na.lv_lim] at this)
  clear hp hRl
  generalize hR : m + n = R at *
  by_cases hle : R < LIM
  · have e1 : sN R = tx R := if_pos hle
    have e2 : eN R = 0 := if_pos hle
    have hts := TT.out.2 hle
    have htsi : ¬ (300 : Int) < ((tx R).size : Int) := by omega
    rw [e1, e2]
    clear e1 e2 TT hle hR
    go_enter Tryz.func112, Tryz.ntmps112
    go_wp2_with fail
    refine NN.out.mono ?_
    rintro e w1 ⟨A, c, A', c', rfl, h1, h2, h3, h4, h5, h6, hb1⟩
    have O1 := Lib.hid (OP.out w1 A c A' c' h1 h2 h3 h4 h5 h6)
    clear h1 h4
    go_wp2_with fail
    refine O1.out.mono ?_
    rintro e w2 ⟨A2, c2, rfl, hi2, _, _, hb2⟩
    have T2 := Lib.hid (TX.out A2 c2 w2 hi2 (HPW.out w2 (Nb hb1 hb2)))
    clear hi2
    go_wp2_with fail
    refine T2.out.mono ?_
    rintro e w3 ⟨rfl, hb3⟩
    go_wp2_with fail
    go_ret2
    exact ⟨rfl, Nb (Nb hb1 hb2) hb3⟩
  · have e1 : sN R = ⟨#[]⟩ := if_neg hle
    have e2 : eN R = 2 := if_neg hle
    have hts := mt TT.out.1 hle
    have htsi : (300 : Int) < ((tx R).size : Int) := by omega
    rw [e1, e2]
    clear e1 e2 TT hle hR
    go_enter Tryz.func112, Tryz.ntmps112
    go_wp2_with fail
    refine NN.out.mono ?_
    rintro e w1 ⟨A, c, A', c', rfl, h1, h2, h3, h4, h5, h6, hb1⟩
    have O1 := Lib.hid (OP.out w1 A c A' c' h1 h2 h3 h4 h5 h6)
    clear h1 h4
    go_wp2_with fail
    refine O1.out.mono ?_
    rintro e w2 ⟨A2, c2, rfl, hi2, _, _, hb2⟩
    have T2 := Lib.hid (TX.out A2 c2 w2 hi2 (HPW.out w2 (Nb hb1 hb2)))
    clear hi2
    go_wp2_with fail
    refine T2.out.mono ?_
    rintro e w3 ⟨rfl, hb3⟩
    go_wp2_with fail
    go_ret2
    exact ⟨rfl, Nb (Nb hb1 hb2) hb3⟩

set_option maxHeartbeats 1000000 in
theorem operate_sub (m n : Nat) (w : World) (hm : m < LIM) (hn : n < LIM) (hp : Pow w.heap.size w) (hmn : n ≤ m) :
    Calls Tryz.prog 112 #[.string (tx m), .string (tx n), .func (.func 113) #[] #[]] w fun e w' => e = .returned (.tuple #[.string (sN (m - n)), .int .i64 (eN (m - n))]) ∧ Below w.heap.size w w' := by
  have NN := Lib.hid (numbers_ok m n w hm hn)
  have HM := Lib.hid (lim50 hm)
  have HN := Lib.hid (lim50 hn)
  have hRl : (Na.lim (m - n)).length ≤ 1000 := by
    refine Nat.le_trans ((Na.lim_length (k := 50)).2 ?_) (by omega)
    have h1 := lt50 hm
    omega
  have TT := Lib.hid (tx_le300 (m - n))
  have TX := Lib.hid (fun A c W (hs : Ints W W.heap.size A (Na.lim (m - n))) hp => text_any A (m - n) c W hs hRl hp)
  have HPW := Lib.hid (fun (v : World) (hb : Below w.heap.size w v) => hp.bt hb)
  have OP := Lib.hid (fun W A c A' c' (h1 : Ints W W.heap.size A (Na.lim m)) (h2 : (Na.lim m).length ≤ c) (h3 : c ≤ maxLen) (h4 : Ints W W.heap.size A' (Na.lim n)) (h5 : (Na.lim n).length ≤ c') (h6 : c' ≤ maxLen) => show Calls Tryz.prog 113 #[.slice A (Na.lim m).length c, .slice A' (Na.lim n).length c'] W (GivesN (m - n) W) from by
    exact minus_any A A' m n c c' W h1 h4 (by have := HM.out; omega) h3 hmn)
  clear hp hRl
  generalize hR : m - n = R at *
  by_cases hle : R < LIM
  · have e1 : sN R = tx R := if_pos hle
    have e2 : eN R = 0 := if_pos hle
    have hts := TT.out.2 hle
    have htsi : ¬ (300 : Int) < ((tx R).size : Int) := by omega
    rw [e1, e2]
    clear e1 e2 TT hle hR
    go_enter Tryz.func112, Tryz.ntmps112
    go_wp2_with fail
    refine NN.out.mono ?_
    rintro e w1 ⟨A, c, A', c', rfl, h1, h2, h3, h4, h5, h6, hb1⟩
    have O1 := Lib.hid (OP.out w1 A c A' c' h1 h2 h3 h4 h5 h6)
    clear h1 h4
    go_wp2_with fail
    refine O1.out.mono ?_
    rintro e w2 ⟨A2, c2, rfl, hi2, _, _, hb2⟩
    have T2 := Lib.hid (TX.out A2 c2 w2 hi2 (HPW.out w2 (Nb hb1 hb2)))
    clear hi2
    go_wp2_with fail
    refine T2.out.mono ?_
    rintro e w3 ⟨rfl, hb3⟩
    go_wp2_with fail
    go_ret2
    exact ⟨rfl, Nb (Nb hb1 hb2) hb3⟩
  · have e1 : sN R = ⟨#[]⟩ := if_neg hle
    have e2 : eN R = 2 := if_neg hle
    have hts := mt TT.out.1 hle
    have htsi : (300 : Int) < ((tx R).size : Int) := by omega
    rw [e1, e2]
    clear e1 e2 TT hle hR
    go_enter Tryz.func112, Tryz.ntmps112
    go_wp2_with fail
    refine NN.out.mono ?_
    rintro e w1 ⟨A, c, A', c', rfl, h1, h2, h3, h4, h5, h6, hb1⟩
    have O1 := Lib.hid (OP.out w1 A c A' c' h1 h2 h3 h4 h5 h6)
    clear h1 h4
    go_wp2_with fail
    refine O1.out.mono ?_
    rintro e w2 ⟨A2, c2, rfl, hi2, _, _, hb2⟩
    have T2 := Lib.hid (TX.out A2 c2 w2 hi2 (HPW.out w2 (Nb hb1 hb2)))
    clear hi2
    go_wp2_with fail
    refine T2.out.mono ?_
    rintro e w3 ⟨rfl, hb3⟩
    go_wp2_with fail
    go_ret2
    exact ⟨rfl, Nb (Nb hb1 hb2) hb3⟩

set_option maxHeartbeats 1000000 in
theorem operate_mul (m n : Nat) (w : World) (hm : m < LIM) (hn : n < LIM) (hp : Pow w.heap.size w) :
    Calls Tryz.prog 112 #[.string (tx m), .string (tx n), .func (.func 130) #[] #[]] w fun e w' => e = .returned (.tuple #[.string (sN (m * n)), .int .i64 (eN (m * n))]) ∧ Below w.heap.size w w' := by
  have NN := Lib.hid (numbers_ok m n w hm hn)
  have HM := Lib.hid (lim50 hm)
  have HN := Lib.hid (lim50 hn)
  have hRl : (Na.lim (m * n)).length ≤ 1000 := by
    refine Nat.le_trans ((Na.lim_length (k := 50 + 50)).2 ?_) (by omega)
    rw [Nat.pow_add]
    exact Nat.mul_lt_mul'' (lt50 hm) (lt50 hn)
  have TT := Lib.hid (tx_le300 (m * n))
  have TX := Lib.hid (fun A c W (hs : Ints W W.heap.size A (Na.lim (m * n))) hp => text_any A (m * n) c W hs hRl hp)
  have HPW := Lib.hid (fun (v : World) (hb : Below w.heap.size w v) => hp.bt hb)
  have OP := Lib.hid (fun W A c A' c' (h1 : Ints W W.heap.size A (Na.lim m)) (h2 : (Na.lim m).length ≤ c) (h3 : c ≤ maxLen) (h4 : Ints W W.heap.size A' (Na.lim n)) (h5 : (Na.lim n).length ≤ c') (h6 : c' ≤ maxLen) => show Calls Tryz.prog 130 #[.slice A (Na.lim m).length c, .slice A' (Na.lim n).length c'] W (GivesN (m * n) W) from by
    have := times_any A A' (Na.lim m) (Na.lim n) c c' W h1 h4 (by have := HM.out; omega) (by have := HN.out; omega) (fun d hd => by have := Na.lim_lt m d hd; omega) (fun d hd => by have := Na.lim_lt n d hd; omega) (by
      rw [Na.lv_lim, Na.lv_lim, Nat.pow_add]
      exact Nat.mul_lt_mul'' (Na.lim_length.1 (Nat.le_refl _)) (Na.lim_length.1 (Nat.le_refl _)))
    rwa [Na.lv_lim, Na.lv_lim] at this)
  clear hp hRl
  generalize hR : m * n = R at *
  by_cases hle : R < LIM
  · have e1 : sN R = tx R := if_pos hle
    have e2 : eN R = 0 := if_pos hle
    have hts := TT.out.2 hle
    have htsi : ¬ (300 : Int) < ((tx R).size : Int) := by omega
    rw [e1, e2]
    clear e1 e2 TT hle hR
    go_enter Tryz.func112, Tryz.ntmps112
    go_wp2_with fail
    refine NN.out.mono ?_
    rintro e w1 ⟨A, c, A', c', rfl, h1, h2, h3, h4, h5, h6, hb1⟩
    have O1 := Lib.hid (OP.out w1 A c A' c' h1 h2 h3 h4 h5 h6)
    clear h1 h4
    go_wp2_with fail
    refine O1.out.mono ?_
    rintro e w2 ⟨A2, c2, rfl, hi2, _, _, hb2⟩
    have T2 := Lib.hid (TX.out A2 c2 w2 hi2 (HPW.out w2 (Nb hb1 hb2)))
    clear hi2
    go_wp2_with fail
    refine T2.out.mono ?_
    rintro e w3 ⟨rfl, hb3⟩
    go_wp2_with fail
    go_ret2
    exact ⟨rfl, Nb (Nb hb1 hb2) hb3⟩
  · have e1 : sN R = ⟨#[]⟩ := if_neg hle
    have e2 : eN R = 2 := if_neg hle
    have hts := mt TT.out.1 hle
    have htsi : (300 : Int) < ((tx R).size : Int) := by omega
    rw [e1, e2]
    clear e1 e2 TT hle hR
    go_enter Tryz.func112, Tryz.ntmps112
    go_wp2_with fail
    refine NN.out.mono ?_
    rintro e w1 ⟨A, c, A', c', rfl, h1, h2, h3, h4, h5, h6, hb1⟩
    have O1 := Lib.hid (OP.out w1 A c A' c' h1 h2 h3 h4 h5 h6)
    clear h1 h4
    go_wp2_with fail
    refine O1.out.mono ?_
    rintro e w2 ⟨A2, c2, rfl, hi2, _, _, hb2⟩
    have T2 := Lib.hid (TX.out A2 c2 w2 hi2 (HPW.out w2 (Nb hb1 hb2)))
    clear hi2
    go_wp2_with fail
    refine T2.out.mono ?_
    rintro e w3 ⟨rfl, hb3⟩
    go_wp2_with fail
    go_ret2
    exact ⟨rfl, Nb (Nb hb1 hb2) hb3⟩

set_option maxHeartbeats 1000000 in
theorem operate_gcd (m n : Nat) (w : World) (hm : m < LIM) (hn : n < LIM) (hp : Pow w.heap.size w) :
    Calls Tryz.prog 112 #[.string (tx m), .string (tx n), .func (.func 133) #[] #[]] w fun e w' => e = .returned (.tuple #[.string (sN (Nat.gcd m n)), .int .i64 (eN (Nat.gcd m n))]) ∧ Below w.heap.size w w' := by
  have NN := Lib.hid (numbers_ok m n w hm hn)
  have HM := Lib.hid (lim50 hm)
  have HN := Lib.hid (lim50 hn)
  have hRl : (Na.lim (Nat.gcd m n)).length ≤ 1000 := by
    have hg : Nat.gcd m n < 1000000 ^ 50 := by
      rcases Nat.eq_zero_or_pos m with h | h
      · rw [h, Nat.gcd_zero_left]; exact lt50 hn
      · exact Nat.lt_of_le_of_lt (Nat.le_of_dvd h (Nat.gcd_dvd_left m n)) (lt50 hm)
    exact Nat.le_trans ((Na.lim_length (k := 50)).2 hg) (by omega)
  have TT := Lib.hid (tx_le300 (Nat.gcd m n))
  have TX := Lib.hid (fun A c W (hs : Ints W W.heap.size A (Na.lim (Nat.gcd m n))) hp => text_any A (Nat.gcd m n) c W hs hRl hp)
  have HPW := Lib.hid (fun (v : World) (hb : Below w.heap.size w v) => hp.bt hb)
  have OP := Lib.hid (fun W A c A' c' (h1 : Ints W W.heap.size A (Na.lim m)) (h2 : (Na.lim m).length ≤ c) (h3 : c ≤ maxLen) (h4 : Ints W W.heap.size A' (Na.lim n)) (h5 : (Na.lim n).length ≤ c') (h6 : c' ≤ maxLen) => show Calls Tryz.prog 133 #[.slice A (Na.lim m).length c, .slice A' (Na.lim n).length c'] W (GivesN (Nat.gcd m n) W) from by
    exact divisor_any A A' m n c c' W h1 h4 (by have := HM.out; omega) (by have := HN.out; omega) h2 h3 h5 h6)
  clear hp hRl
  generalize hR : Nat.gcd m n = R at *
  by_cases hle : R < LIM
  · have e1 : sN R = tx R := if_pos hle
    have e2 : eN R = 0 := if_pos hle
    have hts := TT.out.2 hle
    have htsi : ¬ (300 : Int) < ((tx R).size : Int) := by omega
    rw [e1, e2]
    clear e1 e2 TT hle hR
    go_enter Tryz.func112, Tryz.ntmps112
    go_wp2_with fail
    refine NN.out.mono ?_
    rintro e w1 ⟨A, c, A', c', rfl, h1, h2, h3, h4, h5, h6, hb1⟩
    have O1 := Lib.hid (OP.out w1 A c A' c' h1 h2 h3 h4 h5 h6)
    clear h1 h4
    go_wp2_with fail
    refine O1.out.mono ?_
    rintro e w2 ⟨A2, c2, rfl, hi2, _, _, hb2⟩
    have T2 := Lib.hid (TX.out A2 c2 w2 hi2 (HPW.out w2 (Nb hb1 hb2)))
    clear hi2
    go_wp2_with fail
    refine T2.out.mono ?_
    rintro e w3 ⟨rfl, hb3⟩
    go_wp2_with fail
    go_ret2
    exact ⟨rfl, Nb (Nb hb1 hb2) hb3⟩
  · have e1 : sN R = ⟨#[]⟩ := if_neg hle
    have e2 : eN R = 2 := if_neg hle
    have hts := mt TT.out.1 hle
    have htsi : (300 : Int) < ((tx R).size : Int) := by omega
    rw [e1, e2]
    clear e1 e2 TT hle hR
    go_enter Tryz.func112, Tryz.ntmps112
    go_wp2_with fail
    refine NN.out.mono ?_
    rintro e w1 ⟨A, c, A', c', rfl, h1, h2, h3, h4, h5, h6, hb1⟩
    have O1 := Lib.hid (OP.out w1 A c A' c' h1 h2 h3 h4 h5 h6)
    clear h1 h4
    go_wp2_with fail
    refine O1.out.mono ?_
    rintro e w2 ⟨A2, c2, rfl, hi2, _, _, hb2⟩
    have T2 := Lib.hid (TX.out A2 c2 w2 hi2 (HPW.out w2 (Nb hb1 hb2)))
    clear hi2
    go_wp2_with fail
    refine T2.out.mono ?_
    rintro e w3 ⟨rfl, hb3⟩
    go_wp2_with fail
    go_ret2
    exact ⟨rfl, Nb (Nb hb1 hb2) hb3⟩
end Go.Proofs.YtkbncdcphohmiaaGreatDoor

/- What the program exports, at every text. -/
set_option linter.unusedSimpArgs false
set_option linter.unusedVariables false
namespace Go.Proofs.YtkbncdcphohmiaaGreatDoor
open Go.RowKit
set_option maxRecDepth 100000

def nv (s : ByteArray) : Nat := Na.val s.data.toList
def nil' : ByteArray := ⟨#[]⟩
def opF (f : Nat → Nat → Nat) (s t : ByteArray) : ByteArray × Int := if isB s && isB t then (sN (f (nv s) (nv t)), eN (f (nv s) (nv t))) else (nil', 1)
def subF (s t : ByteArray) : ByteArray × Int := if isB s && isB t then (if nv s < nv t then (nil', 10) else (tx (nv s - nv t), 0)) else (nil', 1)
def cmpF (s t : ByteArray) : Int × Int := if isB s && isB t then (cmpN (nv s) (nv t), 0) else (0, 1)
def divF (s t : ByteArray) : ByteArray × ByteArray × Int := if isB s && isB t then (if nv t = 0 then (nil', nil', 15) else (tx (nv s / nv t), tx (nv s % nv t), 0)) else (nil', nil', 1)
def intF (s : ByteArray) : Int × Int := if isB s then (if nv s < 9223372036854775808 then ((nv s : Int), 0) else (0, 10)) else (0, 1)

theorem nv_tx (m : Nat) : nv (tx m) = m := by
  unfold nv tx
  simp [Na.val_dec]

theorem isB_lt {s : ByteArray} (h : isB s = true) : nv s < LIM ∧ tx (nv s) = s := by
  obtain ⟨m, hm, rfl⟩ := isB_tx h
  rw [nv_tx]
  exact ⟨hm, rfl⟩

theorem cmpN_lt (m n : Nat) : cmpN m n < 0 ↔ m < n := by
  unfold cmpN
  split
  · simp_all
  · split <;> simp_all

theorem compare_tx (m n : Nat) (w : World) (hm : m < LIM) (hn : n < LIM) :
    Calls Tryz.prog 96 #[.string (tx m), .string (tx n)] w fun e w' => e = .returned (.tuple #[.int .i64 (cmpN m n), .int .i64 0]) ∧ Below w.heap.size w w' := by
  have NN := Lib.hid (numbers_ok m n w hm hn)
  have l1 := lim50 hm
  have l2 := lim50 hn
  have CC := Lib.hid (fun A A' c c' W (h1 : Ints W W.heap.size A (Na.lim m)) (h2 : Ints W W.heap.size A' (Na.lim n)) => compare_any A A' m n c c' W h1 h2 (by omega) (by omega))
  go_enter Tryz.func96, Tryz.ntmps96
  go_wp2_with fail
  refine NN.out.mono ?_
  rintro e w1 ⟨A, c, A', c', rfl, h1, h2, h3, h4, h5, h6, hb1⟩
  have C1 := Lib.hid (CC.out A A' c c' w1 h1 h4)
  clear h1 h4
  go_wp2_with fail
  refine C1.out.mono ?_
  rintro e w2 ⟨rfl, q, rfl⟩
  go_wp2_with fail
  go_ret2
  exact ⟨rfl, Nb hb1 (drewN_below w1 q)⟩

theorem compare_bad (s t : ByteArray) (w : World) (hs : s.size ≤ maxLen) (ht : t.size ≤ maxLen) (h : (isB s && isB t) = false) :
    Calls Tryz.prog 96 #[.string s, .string t] w fun e w' => e = .returned (.tuple #[.int .i64 0, .int .i64 1]) ∧ Below w.heap.size w w' := by
  have NN := Lib.hid (numbers_bad s t w hs ht h)
  go_enter Tryz.func96, Tryz.ntmps96
  go_wp2_with fail
  refine NN.out.mono ?_
  rintro e w1 ⟨rfl, hb1⟩
  go_wp2_with fail
  go_ret2
  exact ⟨rfl, hb1⟩

theorem compareF (s t : ByteArray) (w : World) (hs : s.size ≤ maxLen) (ht : t.size ≤ maxLen) :
    Calls Tryz.prog 96 #[.string s, .string t] w fun e w' => e = .returned (.tuple #[.int .i64 (cmpF s t).1, .int .i64 (cmpF s t).2]) ∧ Below w.heap.size w w' := by
  unfold cmpF
  cases h : isB s && isB t
  · exact compare_bad s t w hs ht h
  · rw [Bool.and_eq_true] at h
    obtain ⟨h1, h2⟩ := isB_lt h.1
    obtain ⟨h3, h4⟩ := isB_lt h.2
    have := compare_tx (nv s) (nv t) w h1 h3
    rw [h2, h4] at this
    exact this

theorem div_tx (m n : Nat) (w : World) (hm : m < LIM) (hn : n < LIM) (hn0 : n ≠ 0) (hp : Pow w.heap.size w) :
    Calls Tryz.prog 81 #[.string (tx m), .string (tx n)] w fun e w' => e = .returned (.tuple #[.string (tx (m / n)), .string (tx (m % n)), .int .i64 0]) ∧ Below w.heap.size w w' := by
  have NN := Lib.hid (numbers_ok m n w hm hn)
  have l1 := lim50 hm
  have l2 := lim50 hn
  have DD := Lib.hid (fun A c A' c' W (h1 : Ints W W.heap.size A (Na.lim m)) (h2 : (Na.lim m).length ≤ c) (h3 : c ≤ maxLen) (h4 : Ints W W.heap.size A' (Na.lim n)) (h5 : (Na.lim n).length ≤ c') (h6 : c' ≤ maxLen) => divided_any A A' m n c c' W h1 h4 (by omega) (by omega) h2 h3 h5 h6 (by omega))
  have ZZ := Lib.hid (fun A c W => isZero_any A (Na.lim n).length c W)
  rw [isZero_lim, decide_eq_false hn0] at ZZ
  have lq : (Na.lim (m / n)).length ≤ 50 := lim50 (Nat.lt_of_le_of_lt (Nat.div_le_self _ _) hm)
  have lr : (Na.lim (m % n)).length ≤ 50 := lim50 (Nat.lt_of_le_of_lt (Nat.mod_le _ _) hm)
  have TQ := Lib.hid (fun A c W (hs : Ints W W.heap.size A (Na.lim (m / n))) hp => text_any A (m / n) c W hs (by omega) hp)
  have TR := Lib.hid (fun A c W (hs : Ints W W.heap.size A (Na.lim (m % n))) hp => text_any A (m % n) c W hs (by omega) hp)
  have HPW := Lib.hid (fun (v : World) (hb : Below w.heap.size w v) => hp.bt hb)
  clear hp
  go_enter Tryz.func81, Tryz.ntmps81
  go_wp2_with fail
  refine NN.out.mono ?_
  rintro e w1 ⟨A, c, A', c', rfl, h1, h2, h3, h4, h5, h6, hb1⟩
  have D1 := Lib.hid (DD.out A c A' c' w1 h1 h2 h3 h4 h5 h6)
  clear h1 h4
  go_wp2_with fail
  refine (ZZ.out A' c' w1).mono ?_
  rintro e w1' ⟨rfl, rfl⟩
  go_wp2_with fail
  refine D1.out.mono ?_
  rintro e w2 ⟨Aq, cq, Ar, cr, rfl, hq, _, _, hr, _, _, hb2⟩
  have hb12 := Nb hb1 hb2
  have T1 := Lib.hid (TQ.out Aq cq w2 hq (HPW.out w2 hb12))
  have T2 := Lib.hid (fun v (hb : Below w2.heap.size w2 v) => TR.out Ar cr v (hr.bt hb) (HPW.out v (Nb hb12 hb)))
  clear hq hr
  go_wp2_with fail
  refine T1.out.mono ?_
  rintro e w3 ⟨rfl, hb3⟩
  go_wp2_with fail
  refine (T2.out w3 hb3).mono ?_
  rintro e w4 ⟨rfl, hb4⟩
  go_wp2_with fail
  go_ret3
  exact ⟨rfl, Nb (Nb hb12 hb3) hb4⟩

theorem div_zero (m : Nat) (w : World) (hm : m < LIM) :
    Calls Tryz.prog 81 #[.string (tx m), .string (tx 0)] w fun e w' => e = .returned (.tuple #[.string nil', .string nil', .int .i64 15]) ∧ Below w.heap.size w w' := by
  have NN := Lib.hid (numbers_ok m 0 w hm (by unfold LIM; exact Nat.pos_of_ne_zero (by simp)))
  have ZZ := Lib.hid (fun A c W => isZero_any A (Na.lim 0).length c W)
  rw [isZero_lim] at ZZ
  simp only [decide_true] at ZZ
  go_enter Tryz.func81, Tryz.ntmps81
  go_wp2_with fail
  refine NN.out.mono ?_
  rintro e w1 ⟨A, c, A', c', rfl, h1, h2, h3, h4, h5, h6, hb1⟩
  clear h1 h4
  go_wp2_with fail
  refine (ZZ.out A' c' w1).mono ?_
  rintro e w1' ⟨rfl, rfl⟩
  go_wp2_with fail
  go_ret3
  exact ⟨rfl, hb1⟩

theorem div_bad (s t : ByteArray) (w : World) (hs : s.size ≤ maxLen) (ht : t.size ≤ maxLen) (h : (isB s && isB t) = false) :
    Calls Tryz.prog 81 #[.string s, .string t] w fun e w' => e = .returned (.tuple #[.string nil', .string nil', .int .i64 1]) ∧ Below w.heap.size w w' := by
  have NN := Lib.hid (numbers_bad s t w hs ht h)
  go_enter Tryz.func81, Tryz.ntmps81
  go_wp2_with fail
  refine NN.out.mono ?_
  rintro e w1 ⟨rfl, hb1⟩
  go_wp2_with fail
  go_ret3
  exact ⟨rfl, hb1⟩

theorem divideF (s t : ByteArray) (w : World) (hs : s.size ≤ maxLen) (ht : t.size ≤ maxLen) (hp : Pow w.heap.size w) :
    Calls Tryz.prog 81 #[.string s, .string t] w fun e w' => e = .returned (.tuple #[.string (divF s t).1, .string (divF s t).2.1, .int .i64 (divF s t).2.2]) ∧ Below w.heap.size w w' := by
  unfold divF
  cases h : isB s && isB t
  · exact div_bad s t w hs ht h
  · rw [Bool.and_eq_true] at h
    obtain ⟨h1, h2⟩ := isB_lt h.1
    obtain ⟨h3, h4⟩ := isB_lt h.2
    by_cases h0 : nv t = 0
    · have := div_zero (nv s) w h1
      rw [← h0, h2, h4] at this
      rw [if_pos rfl, if_pos h0]
      exact this
    · have := div_tx (nv s) (nv t) w h1 h3 h0 hp
      rw [h2, h4] at this
      rw [if_pos rfl, if_neg h0]
      exact this

theorem integerF (s : ByteArray) (w : World) (hs : s.size ≤ maxLen) (hp : Pow w.heap.size w) :
    Calls Tryz.prog 82 #[.string s] w fun e w' => e = .returned (.tuple #[.int .i64 (intF s).1, .int .i64 (intF s).2]) ∧ Below w.heap.size w w' := by
  unfold intF
  cases h : isB s
  · exact int_bad s w hs h
  · obtain ⟨h1, h2⟩ := isB_lt h
    by_cases h0 : nv s < 9223372036854775808
    · have := int_ok (nv s) w h1 h0
      rw [h2] at this
      rw [if_pos rfl, if_pos h0]
      exact this
    · have := int_range (nv s) w h1 h0 hp
      rw [h2] at this
      rw [if_pos rfl, if_neg h0]
      exact this

theorem operate_add_bad (s t : ByteArray) (w : World) (hs : s.size ≤ maxLen) (ht : t.size ≤ maxLen) (h : (isB s && isB t) = false) :
    Calls Tryz.prog 112 #[.string s, .string t, .func (.func 132) #[] #[]] w fun e w' => e = .returned (.tuple #[.string nil', .int .i64 1]) ∧ Below w.heap.size w w' := by
  have NN := Lib.hid (numbers_bad s t w hs ht h)
  go_enter Tryz.func112, Tryz.ntmps112
  go_wp2_with fail
  refine NN.out.mono ?_
  rintro e w1 ⟨rfl, hb1⟩
  go_wp2_with fail
  go_ret2
  exact ⟨rfl, hb1⟩

theorem addF (s t : ByteArray) (w : World) (hs : s.size ≤ maxLen) (ht : t.size ≤ maxLen) (hp : Pow w.heap.size w) :
    Calls Tryz.prog 97 #[.string s, .string t] w fun e w' => e = .returned (.tuple #[.string (opF (fun m n => m + n) s t).1, .int .i64 (opF (fun m n => m + n) s t).2]) ∧ Below w.heap.size w w' := by
  have OP : Hid (Calls Tryz.prog 112 #[.string s, .string t, .func (.func 132) #[] #[]] w fun e w' => e = .returned (.tuple #[.string (opF (fun m n => m + n) s t).1, .int .i64 (opF (fun m n => m + n) s t).2]) ∧ Below w.heap.size w w') := by
    refine Lib.hid ?_
    unfold opF
    cases h : isB s && isB t
    · exact operate_add_bad s t w hs ht h
    · rw [Bool.and_eq_true] at h
      obtain ⟨h1, h2⟩ := isB_lt h.1
      obtain ⟨h3, h4⟩ := isB_lt h.2
      have := operate_add (nv s) (nv t) w h1 h3 hp
      rw [h2, h4] at this
      simp only [if_true]
      exact this
  generalize (opF (fun m n => m + n) s t).1 = x at *
  generalize (opF (fun m n => m + n) s t).2 = y at *
  go_enter Tryz.func97, Tryz.ntmps97
  go_wp2_with fail
  refine OP.out.mono ?_
  rintro e w1 ⟨rfl, hb1⟩
  go_wp2_with fail
  go_ret2
  exact ⟨rfl, hb1⟩

theorem operate_mul_bad (s t : ByteArray) (w : World) (hs : s.size ≤ maxLen) (ht : t.size ≤ maxLen) (h : (isB s && isB t) = false) :
    Calls Tryz.prog 112 #[.string s, .string t, .func (.func 130) #[] #[]] w fun e w' => e = .returned (.tuple #[.string nil', .int .i64 1]) ∧ Below w.heap.size w w' := by
  have NN := Lib.hid (numbers_bad s t w hs ht h)
  go_enter Tryz.func112, Tryz.ntmps112
  go_wp2_with fail
  refine NN.out.mono ?_
  rintro e w1 ⟨rfl, hb1⟩
  go_wp2_with fail
  go_ret2
  exact ⟨rfl, hb1⟩

theorem mulF (s t : ByteArray) (w : World) (hs : s.size ≤ maxLen) (ht : t.size ≤ maxLen) (hp : Pow w.heap.size w) :
    Calls Tryz.prog 94 #[.string s, .string t] w fun e w' => e = .returned (.tuple #[.string (opF (fun m n => m * n) s t).1, .int .i64 (opF (fun m n => m * n) s t).2]) ∧ Below w.heap.size w w' := by
  have OP : Hid (Calls Tryz.prog 112 #[.string s, .string t, .func (.func 130) #[] #[]] w fun e w' => e = .returned (.tuple #[.string (opF (fun m n => m * n) s t).1, .int .i64 (opF (fun m n => m * n) s t).2]) ∧ Below w.heap.size w w') := by
    refine Lib.hid ?_
    unfold opF
    cases h : isB s && isB t
    · exact operate_mul_bad s t w hs ht h
    · rw [Bool.and_eq_true] at h
      obtain ⟨h1, h2⟩ := isB_lt h.1
      obtain ⟨h3, h4⟩ := isB_lt h.2
      have := operate_mul (nv s) (nv t) w h1 h3 hp
      rw [h2, h4] at this
      simp only [if_true]
      exact this
  generalize (opF (fun m n => m * n) s t).1 = x at *
  generalize (opF (fun m n => m * n) s t).2 = y at *
  go_enter Tryz.func94, Tryz.ntmps94
  go_wp2_with fail
  refine OP.out.mono ?_
  rintro e w1 ⟨rfl, hb1⟩
  go_wp2_with fail
  go_ret2
  exact ⟨rfl, hb1⟩

theorem operate_gcd_bad (s t : ByteArray) (w : World) (hs : s.size ≤ maxLen) (ht : t.size ≤ maxLen) (h : (isB s && isB t) = false) :
    Calls Tryz.prog 112 #[.string s, .string t, .func (.func 133) #[] #[]] w fun e w' => e = .returned (.tuple #[.string nil', .int .i64 1]) ∧ Below w.heap.size w w' := by
  have NN := Lib.hid (numbers_bad s t w hs ht h)
  go_enter Tryz.func112, Tryz.ntmps112
  go_wp2_with fail
  refine NN.out.mono ?_
  rintro e w1 ⟨rfl, hb1⟩
  go_wp2_with fail
  go_ret2
  exact ⟨rfl, hb1⟩

theorem gcdF (s t : ByteArray) (w : World) (hs : s.size ≤ maxLen) (ht : t.size ≤ maxLen) (hp : Pow w.heap.size w) :
    Calls Tryz.prog 98 #[.string s, .string t] w fun e w' => e = .returned (.tuple #[.string (opF Nat.gcd s t).1, .int .i64 (opF Nat.gcd s t).2]) ∧ Below w.heap.size w w' := by
  have OP : Hid (Calls Tryz.prog 112 #[.string s, .string t, .func (.func 133) #[] #[]] w fun e w' => e = .returned (.tuple #[.string (opF Nat.gcd s t).1, .int .i64 (opF Nat.gcd s t).2]) ∧ Below w.heap.size w w') := by
    refine Lib.hid ?_
    unfold opF
    cases h : isB s && isB t
    · exact operate_gcd_bad s t w hs ht h
    · rw [Bool.and_eq_true] at h
      obtain ⟨h1, h2⟩ := isB_lt h.1
      obtain ⟨h3, h4⟩ := isB_lt h.2
      have := operate_gcd (nv s) (nv t) w h1 h3 hp
      rw [h2, h4] at this
      simp only [if_true]
      exact this
  generalize (opF Nat.gcd s t).1 = x at *
  generalize (opF Nat.gcd s t).2 = y at *
  go_enter Tryz.func98, Tryz.ntmps98
  go_wp2_with fail
  refine OP.out.mono ?_
  rintro e w1 ⟨rfl, hb1⟩
  go_wp2_with fail
  go_ret2
  exact ⟨rfl, hb1⟩

theorem subtractF (s t : ByteArray) (w : World) (hs : s.size ≤ maxLen) (ht : t.size ≤ maxLen) (hp : Pow w.heap.size w) :
    Calls Tryz.prog 80 #[.string s, .string t] w fun e w' => e = .returned (.tuple #[.string (subF s t).1, .int .i64 (subF s t).2]) ∧ Below w.heap.size w w' := by
  have CM := Lib.hid (compareF s t w hs ht)
  have HPW := Lib.hid (fun (v : World) (hb : Below w.heap.size w v) => hp.bt hb)
  unfold subF
  unfold cmpF at CM
  cases h : isB s && isB t
  · rw [h] at CM
    simp only [Bool.false_eq_true, if_false] at CM ⊢
    go_enter Tryz.func80, Tryz.ntmps80
    go_wp2_with fail
    refine CM.out.mono ?_
    rintro e w1 ⟨rfl, hb1⟩
    go_wp2_with fail
    go_ret2
    exact ⟨rfl, hb1⟩
  · rw [h] at CM
    rw [Bool.and_eq_true] at h
    obtain ⟨h1, h2⟩ := isB_lt h.1
    obtain ⟨h3, h4⟩ := isB_lt h.2
    simp only [if_true] at CM ⊢
    by_cases hlt : nv s < nv t
    · have hc := (cmpN_lt _ _).2 hlt
      rw [if_pos hlt]
      clear hlt
      generalize cmpN (nv s) (nv t) = cc at *
      clear h1 h2 h3 h4
      go_enter Tryz.func80, Tryz.ntmps80
      go_wp2_with fail
      refine CM.out.mono ?_
      rintro e w1 ⟨rfl, hb1⟩
      go_wp2_with fail
      go_ret2
      exact ⟨rfl, hb1⟩
    · have hc := mt (cmpN_lt _ _).1 hlt
      rw [if_neg hlt]
      have OP : Hid (∀ v, Below w.heap.size w v → Calls Tryz.prog 112 #[.string s, .string t, .func (.func 113) #[] #[]] v fun e w' => e = .returned (.tuple #[.string (tx (nv s - nv t)), .int .i64 0]) ∧ Below v.heap.size v w') := by
        refine Lib.hid fun v hb => ?_
        have := operate_sub (nv s) (nv t) v h1 h3 (HPW.out v hb) (by omega)
        have hl : nv s - nv t < LIM := by omega
        rw [h2, h4, show sN (nv s - nv t) = tx (nv s - nv t) from if_pos hl, show eN (nv s - nv t) = 0 from if_pos hl] at this
        exact this
      clear hlt
      generalize cmpN (nv s) (nv t) = cc at *
      generalize tx (nv s - nv t) = r at *
      clear h1 h2 h3 h4
      go_enter Tryz.func80, Tryz.ntmps80
      go_wp2_with fail
      refine CM.out.mono ?_
      rintro e w1 ⟨rfl, hb1⟩
      go_wp2_with fail
      refine (OP.out w1 hb1).mono ?_
      rintro e w2 ⟨rfl, hb2⟩
      go_wp2_with fail
      go_ret2
      exact ⟨rfl, Nb hb1 hb2⟩
end Go.Proofs.YtkbncdcphohmiaaGreatDoor

/- What operations on texts say of each other. -/
set_option linter.unusedSimpArgs false
set_option linter.unusedVariables false
namespace Go.Proofs.YtkbncdcphohmiaaGreatDoor
open Go.RowKit
set_option maxRecDepth 100000

theorem small {n : Nat} (h : n < 10 ^ 100) : n < LIM := by
  unfold LIM
  exact Nat.lt_of_lt_of_le h (Nat.pow_le_pow_right (by omega) (by unfold DIGS; omega))

theorem tx_of (l : List UInt8) (n : Nat) (h : Na.isN l = true) (hv : Na.val l = n) : tx n = ⟨l.toArray⟩ := by
  unfold tx
  rw [← hv, Na.dec_val l h]

theorem opF_ok (f : Nat → Nat → Nat) (s t : ByteArray) (h1 : isB s = true) (h2 : isB t = true) (h3 : f (nv s) (nv t) < LIM) : opF f s t = (tx (f (nv s) (nv t)), 0) := by
  unfold opF sN eN
  rw [h1, h2, if_pos h3, if_pos h3]
  rfl

theorem opF_not (f : Nat → Nat → Nat) (s t : ByteArray) (h : ¬ (isB s = true ∧ isB t = true ∧ f (nv s) (nv t) < LIM)) : (opF f s t).1 = nil' ∧ (opF f s t).2 ≠ 0 := by
  unfold opF
  by_cases h1 : (isB s && isB t) = true
  · rw [if_pos h1]
    rw [Bool.and_eq_true] at h1
    have h3 : ¬ f (nv s) (nv t) < LIM := fun h3 => h ⟨h1.1, h1.2, h3⟩
    unfold sN eN
    rw [if_neg h3, if_neg h3]
    exact ⟨rfl, by decide⟩
  · rw [if_neg h1]
    exact ⟨rfl, by decide⟩

theorem op_spec (f : Nat → Nat → Nat) (s t : ByteArray) : (opF f s t = (tx (f (nv s) (nv t)), 0) ∧ isB s = true ∧ isB t = true ∧ f (nv s) (nv t) < LIM) ∨ ((opF f s t).1 = nil' ∧ (opF f s t).2 ≠ 0 ∧ ¬ (isB s = true ∧ isB t = true ∧ f (nv s) (nv t) < LIM)) := by
  by_cases h : isB s = true ∧ isB t = true ∧ f (nv s) (nv t) < LIM
  · exact .inl ⟨opF_ok f s t h.1 h.2.1 h.2.2, h⟩
  · exact .inr ⟨(opF_not f s t h).1, (opF_not f s t h).2, h⟩

theorem nil_len : nil'.size ≤ maxLen := by decide
theorem tx_len' {R : Nat} (h : R < LIM) : (tx R).size ≤ maxLen := tx_len h

theorem op_len (f : Nat → Nat → Nat) (s t : ByteArray) : (opF f s t).1.size ≤ maxLen := by
  rcases op_spec f s t with ⟨h, _, _, h3⟩ | ⟨h, _⟩
  · rw [h]; exact tx_len h3
  · rw [h]; exact nil_len

theorem isB_nil : isB nil' = false := by decide

theorem isB_op (f : Nat → Nat → Nat) (s t : ByteArray) (h : isB (opF f s t).1 = true) : opF f s t = (tx (f (nv s) (nv t)), 0) ∧ isB s = true ∧ isB t = true ∧ f (nv s) (nv t) < LIM := by
  rcases op_spec f s t with h1 | ⟨h1, _⟩
  · exact h1
  · rw [h1, isB_nil] at h
    cases h

theorem sub_spec (s t : ByteArray) (h1 : isB s = true) (h2 : isB t = true) : subF s t = if nv s < nv t then (nil', 10) else (tx (nv s - nv t), 0) := by
  unfold subF
  rw [h1, h2]
  rfl

theorem sub_len (s t : ByteArray) : (subF s t).1.size ≤ maxLen := by
  unfold subF
  cases h : isB s && isB t
  · exact nil_len
  · rw [Bool.and_eq_true] at h
    have h1 := (isB_lt h.1).1
    rw [if_pos rfl]
    split
    · exact nil_len
    · exact tx_len (by omega)

theorem div_len (s t : ByteArray) : (divF s t).1.size ≤ maxLen ∧ (divF s t).2.1.size ≤ maxLen := by
  unfold divF
  cases h : isB s && isB t
  · exact ⟨nil_len, nil_len⟩
  · rw [Bool.and_eq_true] at h
    have h1 := (isB_lt h.1).1
    rw [if_pos rfl]
    split
    · exact ⟨nil_len, nil_len⟩
    · exact ⟨tx_len (Nat.lt_of_le_of_lt (Nat.div_le_self _ _) h1), tx_len (Nat.lt_of_le_of_lt (Nat.mod_le _ _) h1)⟩

theorem isB_txl {m : Nat} (h : m < LIM) : isB (tx m) = true := by rw [tx_isB, decide_eq_true h]

theorem nez {e : Int} (h : ¬ e = 0) : (e == 0) = false ∧ (e != 0) = true := by
  have : (e == 0) = false := by simpa using h
  exact ⟨this, by simp [bne, this]⟩

theorem op_zero {f : Nat → Nat → Nat} {s t x : ByteArray} {e : Int} (h : opF f s t = (x, e)) (h0 : e = 0) : isB s = true ∧ isB t = true ∧ x = tx (f (nv s) (nv t)) ∧ nv x = f (nv s) (nv t) ∧ f (nv s) (nv t) < LIM := by
  rcases op_spec f s t with ⟨h1, h2, h3, h4⟩ | ⟨_, h1, _⟩
  · rw [h] at h1
    have hx : x = tx (f (nv s) (nv t)) := congrArg Prod.fst h1
    exact ⟨h2, h3, hx, by rw [hx, nv_tx], h4⟩
  · rw [h] at h1
    exact absurd h0 h1

theorem op_fail {f : Nat → Nat → Nat} {s t x : ByteArray} {e : Int} (h : opF f s t = (x, e)) (h0 : e ≠ 0) : x = nil' := by
  rcases op_spec f s t with ⟨h1, _⟩ | ⟨h1, _⟩
  · rw [h] at h1
    exact absurd (congrArg Prod.snd h1) h0
  · rw [h] at h1
    exact h1

theorem op_isB {f : Nat → Nat → Nat} {s t x : ByteArray} {e : Int} (h : opF f s t = (x, e)) (hx : isB x = true) : e = 0 := by
  have := isB_op f s t (by rw [h]; exact hx)
  rw [h] at this
  exact congrArg Prod.snd this.1

theorem op_make {f : Nat → Nat → Nat} {s t x : ByteArray} {e : Int} (h : opF f s t = (x, e)) (h1 : isB s = true) (h2 : isB t = true) (h3 : f (nv s) (nv t) < LIM) : x = tx (f (nv s) (nv t)) ∧ e = 0 := by
  have := opF_ok f s t h1 h2 h3
  rw [h] at this
  exact ⟨congrArg Prod.fst this, congrArg Prod.snd this⟩

theorem op_comm (f : Nat → Nat → Nat) (s t : ByteArray) (hf : ∀ m n, f m n = f n m) : opF f s t = opF f t s := by
  unfold opF
  rw [Bool.and_comm, hf]
def zr : ByteArray := ⟨#[48]⟩
theorem tx_zero : tx 0 = ⟨#[48]⟩ := tx_of [48] 0 (by decide) (by decide)

theorem ne48 {b : ByteArray} (h : b ≠ ⟨#[48]⟩) : (b.toList == [48]) = false := by
  have := bytes_ne h
  rwa [show (⟨#[48]⟩ : ByteArray).toList = [48] by rw [ByteArray.toList_eq]] at this

theorem nv_pos {b : ByteArray} (hb : isB b = true) (h : b ≠ ⟨#[48]⟩) : nv b ≠ 0 := fun e => by
  have := (isB_lt hb).2
  rw [e, tx_zero] at this
  exact h this.symm

theorem div_make {s t q r : ByteArray} {e : Int} (h : divF s t = (q, r, e)) (h1 : isB s = true) (h2 : isB t = true) (h0 : nv t ≠ 0) : q = tx (nv s / nv t) ∧ r = tx (nv s % nv t) ∧ e = 0 := by
  unfold divF at h
  rw [h1, h2] at h
  simp only [Bool.and_self, if_true, h0, if_false] at h
  injection h with h3 h4
  injection h4 with h5 h6
  exact ⟨h3.symm, h5.symm, h6.symm⟩

theorem cmp_make {s t : ByteArray} {c e : Int} (h : cmpF s t = (c, e)) (h1 : isB s = true) (h2 : isB t = true) : c = cmpN (nv s) (nv t) ∧ e = 0 := by
  unfold cmpF at h
  rw [h1, h2] at h
  simp only [Bool.and_self, if_true] at h
  injection h with h3 h4
  exact ⟨h3.symm, h4.symm⟩
end Go.Proofs.YtkbncdcphohmiaaGreatDoor
