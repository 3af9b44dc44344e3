/- zeros: a power of ten as a text. -/
import Derived.Test.YtabebggkfjddbaaDoorNaOrdM
import Derived.Laws.IdiomStrings
set_option linter.unusedSimpArgs false
set_option linter.unusedVariables false
namespace Go.Proofs.YtabebggkfjddbaaDoor
open Go.RowKit
set_option maxRecDepth 100000

def ten (n : Nat) : List UInt8 := 49 :: List.replicate n 48

theorem ten_snoc (n : Nat) : ten (n + 1) = ten n ++ [48] := by
  unfold ten
  rw [List.replicate_succ', List.cons_append]

theorem ten_length (n : Nat) : (ten n).length = n + 1 := by simp [ten]

theorem ten_dec (n : Nat) : Lib.decDigits (10 ^ n) = ten n := by
  induction n with
  | zero => rw [Na.dec_lt (by decide)]; rfl
  | succ n ih =>
    have h1 : 0 < 10 ^ n := Nat.pos_of_ne_zero (by simp)
    rw [Na.dec_ge (by rw [Nat.pow_succ]; omega), Nat.pow_succ, Nat.mul_div_cancel _ (by omega), ih, Nat.mul_mod_left, ten_snoc]
    rfl

def OwnB (w : World) (B g c : Nat) (l : List UInt8) : Prop := w.ownsRow B 5 1 (.slice (some ⟨g, 0, none⟩) l.length c) l.length (Lib.byteCells l)

theorem OwnB.below {w w' : World} {B g c : Nat} {l : List UInt8} (h : OwnB w B g c l) (hb : Below w.heap.size w w') : OwnB w' B g c l :=
  World.ownsRow.kept h (row := none) ⟨hb.os, hb.tape, hb.output, hb.size, fun i hi _ => hb.block i hi⟩ (.inr (by simp [Value.ownBlock]))

theorem OwnB.cell {w : World} {B g c : Nat} {l : List UInt8} (h : OwnB w B g c l) (j : Nat) (hj : j < l.length) : w.cell? ((⟨g, 0, none⟩ : Addr).add j) = some (.int .u8 (l[j].toNat : Int)) := by
  have e : (⟨g, 0, none⟩ : Addr).add j = ⟨g, j, none⟩ := by
    simp only [Addr.add, Nat.zero_add]
    split
    · subst_vars; rfl
    · rfl
  rw [e, World.ownsRow.cellAt h j (by omega)]
  unfold Lib.byteCells
  rw [List.getElem?_map, List.getElem?_eq_getElem hj]
  rfl

set_option maxHeartbeats 1000000 in
theorem zeros_any (n : Nat) (w : World) (hn : n ≤ 1000) :
    Calls Tryd.prog 32 #[.int .i64 (n : Int)] w fun e w' => e = .returned (.string (tx (10 ^ n))) ∧ Below w.heap.size w w' := by
  have HT := Lib.hid (show tx (10 ^ n) = ⟨(ten n).toArray⟩ by unfold tx; rw [ten_dec])
  have H0 : Hid (OwnB (w.alloc (.cells #[.int .u8 49] 5)) w.heap.size w.heap.size 1 (ten 0)) := Lib.hid (World.ownsRow_lit w #[.int .u8 49] 1 (Nat.le_refl _) (by unfold maxLen; omega) rfl)
  have hb0 : Below w.heap.size w (w.alloc (.cells #[.int .u8 49] 5)) := (Below.refl _ _).alloc (Nat.le_refl _) _
  obtain ⟨i0, hi, hz0, hz1, hz2⟩ := info_parts infoByte
  go_enter Tryd.func32, Tryd.ntmps32
  go_wp2
  go_loopw [3, 4] (fun v i wr => ∃ k g c : Nat, k ≤ n ∧ i = .int .i64 (k : Int) ∧ v = .slice (some ⟨g, 0, none⟩) (k + 1) c ∧ Hid (OwnB wr w.heap.size g c (ten k)) ∧ Below w.heap.size w wr) (fun _ i _ => n - (intOf i).toNat)
  case atStart => exact ⟨0, w.heap.size, 1, by omega, rfl, rfl, H0, hb0⟩
  case round =>
    clear H0 hb0
    obtain ⟨k, g, c, hk, rfl, rfl, HO, hb⟩ := hrel
    by_cases hlt : k < n
    · have hbx : Below wr.heap.size wr (wr.alloc (.cells #[.int .u8 48] 5)) := (Below.refl _ _).alloc (Nat.le_refl _) _
      have HO2 := Lib.hid (HO.out.below hbx)
      have hbw := Nb hb hbx
      have hcl : ∀ j u, [Value.int .u8 48][j]? = some u → (wr.alloc (.cells #[.int .u8 48] 5)).cell? ((⟨wr.heap.size, 0, none⟩ : Addr).add j) = some u := by
        intro j u hj
        rcases Nat.eq_zero_or_pos j with rfl | hp
        · rw [show (⟨wr.heap.size, 0, none⟩ : Addr).add 0 = ⟨wr.heap.size, 0, none⟩ from rfl, cell_of_one (heap_alloc_new wr _)]
          exact hj
        · rw [List.getElem?_eq_none (by simp; omega)] at hj
          cases hj
      have HCL := Lib.hid hcl
      clear hcl hbx
      have hown : (wr.alloc (.cells #[.int .u8 48] 5)).ownsRow w.heap.size 5 1 (.slice (some ⟨g, 0, none⟩) (k + 1) c) (k + 1) (Lib.byteCells (ten k)) := by
        have := HO2.out
        unfold OwnB at this
        rwa [ten_length] at this
      have HOW := Lib.hid hown
      clear hown
      go_wp2_with (first
        | (at_builtin
           refine wpList_append_lies _ rfl (.tmp 11) (.tmp 12) 64 rfl w.heap.size 5 i0 (.int .u8 0) 1 1 rfl hi hz0 hz1 hz2 rfl (by decide) (.slice (some ⟨g, 0, none⟩) (k + 1) c) (k + 1) _ rfl HOW.out ⟨wr.heap.size, 0, none⟩ 1 1 [.int .u8 48] rfl rfl HCL.out (by intro u hu; simp at hu; subst hu; rfl) (by omega) (by unfold maxLen; omega) (by omega) hbw.size wr.heap.size.succ (Array.size_push ..) ?_
           intro g2 c2 w2 ho2 hg2 hgv hgl
           have HO3 := Lib.hid ho2
           have hbw2 := hbw.trans ((Below.refl _ _).grown hg2 hbw.size (fun j hj => by
             have := HOW.out
             rcases this.2 with ⟨h', _⟩ | ⟨g', cap', cur, h', h2', _⟩
             · simp at h'
             · simp only [Value.slice.injEq, Option.some.injEq, Addr.mk.injEq, and_true, true_and] at h'
               obtain ⟨rfl, rfl⟩ := h'
               simp [Value.ownBlock] at hj
               subst hj
               exact h2'))
           clear ho2 hg2 hgv)
        | fail)
      refine ⟨⟨k + 1, g2, c2, by omega, by go_num, rfl, Lib.hid ?_, hbw2⟩, by simp [intOf]; omega⟩
      have := HO3.out
      unfold OwnB
      rw [ten_length, ten_snoc]
      have e : Lib.byteCells (ten k ++ [48]) = Lib.byteCells (ten k) ++ [.int .u8 48] := by simp [Lib.byteCells]
      rw [e]
      exact this
    · obtain rfl : k = n := by omega
      have hcv := run_convert_bytes_back (P := Tryd.prog) wr 64 9 5 ⟨g, 0, none⟩ c (ten k) Tryd.underlying64 Tryd.underlying5 Tryd.underlying9 (fun j hj => HO.out.cell j hj)
      rw [ten_length] at hcv
      go_wp2
      go_ret
      refine ⟨?_, hb⟩
      rw [HT.out]
      rfl

theorem pow_lim (i : Nat) : 10 ^ i < LIM ↔ i < 300 := by
  unfold LIM
  exact Nat.pow_lt_pow_iff_right (by omega)

theorem nines (i : Nat) : (tx (10 ^ i - 1)).size = if 1 < i then i else 1 := by
  rw [tx_size]
  split
  · rename_i h
    have h1 := (Na.dec_len (n := 10 ^ i - 1) (k := i) (by omega)).2 (by have : 0 < 10 ^ i := Nat.pos_of_ne_zero (by simp); omega)
    have h2 : ¬ (Lib.decDigits (10 ^ i - 1)).length ≤ i - 1 := fun h3 => by
      have h4 := (Na.dec_len (by omega)).1 h3
      have h5 : 10 ^ i = 10 ^ (i - 1) * 10 := by rw [← Nat.pow_succ]; congr 1; omega
      have h6 : 0 < 10 ^ (i - 1) := Nat.pos_of_ne_zero (by simp)
      omega
    omega
  · rename_i h
    have : i = 0 ∨ i = 1 := by omega
    rcases this with rfl | rfl
    · rw [Na.dec_lt (by decide)]; rfl
    · rw [Na.dec_lt (by decide)]; rfl

theorem of1 : tx 1 = ⟨#[49]⟩ := tx_of [49] 1 (by decide) (by decide)

end Go.Proofs.YtabebggkfjddbaaDoor
