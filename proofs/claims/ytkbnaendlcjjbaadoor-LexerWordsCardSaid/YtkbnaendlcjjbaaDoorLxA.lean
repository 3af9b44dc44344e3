/- Layer 7: the classes of bytes, the table that the program makes of them, and whether a class is among others. -/
import Derived.Test.YtkbnaendlcjjbaaDoorLxMath
import Derived.Test.YtkbnaendlcjjbaaDoorChecked
import Derived.WalkKit
import Derived.Below
import Derived.LoopTactic
import Derived.Lib.Hide
import Derived.Lib.Strings
import Derived.Lib.IndexBytes
import Derived.Laws.CopyOwn
import Derived.Laws.Rows
import Derived.Laws.Tables
import Derived.Deep.WholeRow
import Derived.Shelf.Abstract
set_option linter.unusedSimpArgs false
set_option linter.unusedVariables false
namespace Go.Proofs.YtkbnaendlcjjbaaDoor
open Go.RowKit
set_option maxRecDepth 100000

theorem Lx.cell_lt {w : World} {a : Addr} {v : Value} (h : w.cell? a = some v) : a.block < w.heap.size := by
  refine Nat.lt_of_not_le fun hge => ?_
  simp [World.cell?, Array.getElem?_eq_none hge] at h
theorem Lx.cell_bt {w w' : World} {a : Addr} {v : Value} (h : w.cell? a = some v) (hb : Below w.heap.size w w') : w'.cell? a = some v := (hb.cell (Lx.cell_lt h)).trans h
theorem Lx.al (w : World) (o : Obj) : Below w.heap.size w (w.alloc o) := (Below.refl _ _).alloc (Nat.le_refl _) o
theorem Lx.Nb {w v u : World} (h : Below w.heap.size w v) (g : Below v.heap.size v u) : Below w.heap.size w u := h.trans (g.mono h.size)

/-- The class of a byte, by number. -/
def Lx.cls (n : Nat) : Nat :=
  if n == 32 || n == 9 then 1 else if n == 10 then 2 else if n == 35 then 3
  else if (65 ≤ n && n ≤ 90) || (97 ≤ n && n ≤ 122) then 4 else if 48 ≤ n && n ≤ 57 then 5
  else if n == 95 then 6 else if n == 34 then 7 else if n == 33 then 8 else if n == 60 || n == 62 then 9 else if n == 61 then 10
  else if [59, 44, 46, 58, 40, 41, 91, 93, 123, 125, 43, 45].contains n then 11 else 0
def Lx.tabC : List Nat := (List.range 256).map Lx.cls
def Lx.cv (l : List Nat) : Array Value := (l.map fun k : Nat => Value.int .u8 (k : Int)).toArray
theorem Lx.cv_size (l : List Nat) : (Lx.cv l).size = l.length := by simp [Lx.cv]
theorem Lx.cv_one (l : List Nat) : (Lx.cv l).all (·.oneCell') = true := by simp [Lx.cv, Value.oneCell']
def Lx.strs : List (List UInt8) := [[], [32, 9], [10], [35], [65, 66, 67, 68, 69, 70, 71, 72, 73, 74, 75, 76, 77, 78, 79, 80, 81, 82, 83, 84, 85, 86, 87, 88, 89, 90, 97, 98, 99, 100, 101, 102, 103, 104, 105, 106, 107, 108, 109, 110, 111, 112, 113, 114, 115, 116, 117, 118, 119, 120, 121, 122], [48, 49, 50, 51, 52, 53, 54, 55, 56, 57], [95], [34], [33], [60, 62], [61], [59, 44, 46, 58, 40, 41, 91, 93, 123, 125, 43, 45]]
def Lx.put (k : Nat) (t : List Nat) (s : List UInt8) : List Nat := s.foldl (fun t c => t.set c.toNat k) t
def Lx.tabN : Nat → List Nat
  | 0 => List.replicate 256 0
  | k + 1 => Lx.put k (Lx.tabN k) (Lx.strs.getD k [])
theorem Lx.put_length (k : Nat) : ∀ (s : List UInt8) (t : List Nat), (Lx.put k t s).length = t.length
  | [], t => rfl
  | c :: s, t => (Lx.put_length k s _).trans (by simp)
theorem Lx.tabN_length : ∀ k, (Lx.tabN k).length = 256
  | 0 => by simp [Lx.tabN]
  | k + 1 => (Lx.put_length k _ _).trans (Lx.tabN_length k)
theorem Lx.tabN_end : Lx.tabN 12 = Lx.tabC := by decide +kernel
theorem Lx.put_snoc (k : Nat) (t : List Nat) (s : List UInt8) (c : UInt8) : Lx.put k t (s ++ [c]) = (Lx.put k t s).set c.toNat k := by simp [Lx.put]
theorem Lx.put_nil (k : Nat) (t : List Nat) : Lx.put k t [] = t := rfl

/-- A slice of classes at an address below block B. -/
def Cs (w : World) (B : Nat) (ad : Addr) (cl : List Nat) : Prop := ad.block < B ∧ ∀ k, (h : k < cl.length) → w.cell? (ad.add k) = some (.int .u8 ((cl[k] : Nat) : Int))
theorem Lx.add_block (a : Addr) (k : Nat) : (a.add k).block = a.block := by
  unfold Addr.add
  split <;> rfl
theorem Cs.bt {w w' : World} {ad : Addr} {cl : List Nat} (h : Cs w w.heap.size ad cl) (hb : Below w.heap.size w w') : Cs w' w'.heap.size ad cl :=
  ⟨Nat.lt_of_lt_of_le h.1 hb.size, fun k hk => (hb.cell (p := ad.add k) (by rw [Lx.add_block]; exact h.1)).trans (h.2 k hk)⟩
theorem Cs.at0 {w : World} {B : Nat} {ad : Addr} {cl : List Nat} (h : Cs w B ad cl) (k : Nat) (hk : k < cl.length) : w.cell? (ad.add k) = some (.int .u8 ((cl[k] : Nat) : Int)) := h.2 k hk

/-- What Index finds: a place, or a number below 0. -/
def Lx.Found (cl : List Nat) (c : Nat) (r : Int) : Prop := decide (0 ≤ r) = cl.contains c
theorem Lx.index_any (ad : Addr) (n : Nat) (cl : List Nat) (c : Nat) (w : World) (hn : n = cl.length) (hl : n ≤ 100) (hc : c < 256) (hcl : ∀ x ∈ cl, x < 256) (h : Cs w w.heap.size ad cl) :
    Calls Tryd.prog 40 #[.slice (some ad) n n, .int .u8 (c : Int)] w fun e w' => (∃ r : Int, e = .returned (.int .i64 r) ∧ Hid (Lx.Found cl c r)) ∧ w = w' := by
  have H := Lib.hid h
  have HN := Lib.hid hn
  have HC := Lib.hid hcl
  clear h hn hcl
  go_enter Tryd.func40, Tryd.ntmps40
  go_wp2
  go_loop [8] (fun i => ∃ k : Nat, k ≤ n ∧ i = .int .i64 k ∧ Hid (∀ x ∈ cl.take k, x ≠ c)) (fun i => n - (intOf i).toNat)
  case atStart => exact ⟨0, by omega, rfl, Lib.hid (by simp)⟩
  case round =>
    obtain ⟨k, hk, rfl, hq⟩ := hrel
    by_cases hlt : k < n
    · have hidx := H.out.at0 k (by have := HN.out; omega)
      have hkn : k < cl.length := by have := HN.out; omega
      have hv := HC.out _ (List.getElem_mem hkn)
      obtain ⟨v, hvv⟩ : ∃ v, v = cl[k] := ⟨_, rfl⟩
      rw [← hvv] at hidx hv
      have HV := Lib.hid hvv
      have HK := Lib.hid hkn
      clear hvv
      have h0 : (0 : Int) ≤ (k : Int) := by omega
      have h1 : (k : Int) < (n : Int) := by omega
      by_cases he : c = v
      · have hr : Hid (Lx.Found cl c (k : Int)) := Lib.hid (by
          unfold Lx.Found
          rw [decide_eq_true h0]
          have hkn := HK.out
          have := List.contains_iff_mem.2 (List.getElem_mem hkn)
          rw [← HV.out, ← he] at this
          exact this.symm)
        subst he
        go_wp2
        go_ret
        exact ⟨⟨_, rfl, hr⟩, rfl⟩
      · have he' : ((c : Int) == (v : Int)) = false := by simp; omega
        have he2 : ¬ (c : Int) = (v : Int) := by omega
        have hq' : Hid (∀ x ∈ cl.take (k + 1), x ≠ c) := Lib.hid (by
          intro x hx
          rw [List.take_add_one, List.getElem?_eq_getElem HK.out] at hx
          rcases List.mem_append.1 hx with hx | hx
          · exact hq.out x hx
          · simp at hx
            rw [hx, ← HV.out]
            exact fun e => he e.symm)
        go_wp2
        exact ⟨⟨k + 1, by omega, by go_num, hq'⟩, by simp [intOf]; omega⟩
    · obtain rfl : k = n := by omega
      have hr : Hid (Lx.Found cl c (-1)) := Lib.hid (by
        unfold Lx.Found
        rw [decide_eq_false (by omega)]
        have := hq.out
        rw [HN.out, List.take_length] at this
        cases hcc : cl.contains c with
        | false => rfl
        | true => exact absurd rfl (this c (List.contains_iff_mem.1 hcc)))
      go_wp2
      go_ret
      exact ⟨⟨_, rfl, hr⟩, rfl⟩
theorem Lx.contains_any (ad : Addr) (n : Nat) (cl : List Nat) (c : Nat) (w : World) (hn : n = cl.length) (hl : n ≤ 100) (hc : c < 256) (hcl : ∀ x ∈ cl, x < 256) (h : Cs w w.heap.size ad cl) :
    Calls Tryd.prog 38 #[.slice (some ad) n n, .int .u8 (c : Int)] w fun e w' => e = .returned (.bool (cl.contains c)) ∧ w = w' := by
  have HI := Lib.hid (Lx.index_any ad n cl c w hn hl hc hcl h)
  clear h hn hcl
  go_enter Tryd.func38, Tryd.ntmps38
  go_wp2_with fail
  refine HI.out.mono ?_
  rintro e w1 ⟨⟨r, rfl, hr⟩, rfl⟩
  go_wp2_with fail
  go_ret
  refine ⟨?_, rfl⟩
  have := hr.out
  unfold Lx.Found at this
  show Ending.returned (Value.bool (decide (0 ≤ r))) = _
  rw [this]
theorem Lx.info42 : (Tryd.prog.info? 42).map (fun i => (i.zero, i.size)) = some (some (.agg (Lx.cv (Lx.tabN 0))), 256) := by kernel_rfl
theorem Lx.sB : ∀ k, k < 12 → (⟨(Lx.strs.getD k []).toArray⟩ : ByteArray).size ≤ 52 := by decide
theorem Lx.cv_get (t : List Nat) (c : Nat) (h : c < t.length) : (Lx.cv t)[c]? = some (.int .u8 ((t[c] : Nat) : Int)) := by simp [Lx.cv, h]
theorem Lx.cv_set (t : List Nat) (c k : Nat) : (Lx.cv t).setIfInBounds c (.int .u8 (k : Int)) = Lx.cv (t.set c k) := by simp [Lx.cv, List.map_set]
def Lx.strV : Value := .agg (Lx.strs.map fun s => Value.string ⟨s.toArray⟩).toArray
theorem Lx.strV_at (k : Nat) (h : k < 12) (w : World) : (Instr.index 53 Lx.strV (.int .i64 (k : Int))).run Tryd.prog w = .ok (.string ⟨(Lx.strs.getD k []).toArray⟩) w := by
  have hl : k < Lx.strs.length := h
  simp [Instr.index, run_underlying Tryd.underlying53, Lx.strV, go_sem, hl, List.getD_eq_getElem?_getD]
  intro hge
  omega

set_option maxHeartbeats 2000000 in
theorem Lx.table_any (w : World) : Calls Tryd.prog 22 #[] w fun e w' => e = .returned (.agg (Lx.cv Lx.tabC)) ∧ Below w.heap.size w w' := by
  obtain ⟨hv42, hi42⟩ := zero_of_info Lx.info42
  have hs0 : (Lx.cv (Lx.tabN 0)).size = 256 := by rw [Lx.cv_size, Lx.tabN_length]
  generalize hT0 : Lx.cv (Lx.tabN 0) = T0 at hv42 hs0
  have HT0 := Lib.hid hT0
  have HS0 := Lib.hid hs0
  have HI42 := Lib.hid hi42
  clear hT0 hs0 hi42
  go_enter Tryd.func22, Tryd.ntmps22
  go_wp2
  rw [show Value.agg #[Value.string ⟨#[]⟩, Value.string ⟨#[32, 9]⟩, Value.string ⟨#[10]⟩, Value.string ⟨#[35]⟩, Value.string ⟨#[65, 66, 67, 68, 69, 70, 71, 72, 73, 74, 75, 76, 77, 78, 79, 80, 81, 82, 83, 84, 85, 86, 87, 88, 89, 90, 97, 98, 99, 100, 101, 102, 103, 104, 105, 106, 107, 108, 109, 110, 111, 112, 113, 114, 115, 116, 117, 118, 119, 120, 121, 122]⟩, Value.string ⟨#[48, 49, 50, 51, 52, 53, 54, 55, 56, 57]⟩, Value.string ⟨#[95]⟩, Value.string ⟨#[34]⟩, Value.string ⟨#[33]⟩, Value.string ⟨#[60, 62]⟩, Value.string ⟨#[61]⟩, Value.string ⟨#[59, 44, 46, 58, 40, 41, 91, 93, 123, 125, 43, 45]⟩] = Lx.strV from rfl]
  obtain ⟨w1, hw1⟩ : ∃ w1, w1 = w.alloc (.cells T0 42) := ⟨_, rfl⟩
  have hsz : w1.heap.size = w.heap.size + 1 := by rw [hw1]; simp
  rw [← hw1, ← hsz]
  have HB1 : Hid (w1.heap[w.heap.size]? = some (.cells T0 42 (0, 0)) ∧ Below w.heap.size w w1) := Lib.hid ⟨by rw [hw1]; exact heap_alloc_new w _, by rw [hw1]; exact Lx.al w _⟩
  have HX := Lib.hid Lx.strV_at
  have HSZ := Lib.hid hsz
  rw [← HT0.out]
  clear hw1 hsz hv42
  generalize Lx.strV = SV at *
  generalize hb0 : w.heap.size = b0 at *
  have HB0 := Lib.hid hb0
  clear hb0
  go_loopw [6] (fun i wr => ∃ k : Nat, k ≤ 12 ∧ i = .int .i64 (k : Int) ∧ wr = w1.alloc (.cells (Lx.cv (Lx.tabN k)) 42)) (fun i _ => 12 - (intOf i).toNat)
  case atStart => exact ⟨0, by omega, rfl, rfl⟩
  case round =>
    obtain ⟨k, hk, rfl, rfl⟩ := hrel
    by_cases hlt : k < 12
    · have hidx := HX.out k hlt
      have hsb := Lx.sB k hlt
      have hwk : IntKind.u8.wrap (k : Int) = (k : Int) := by simp [IntKind.wrap, IntKind.bits, IntKind.signed]; omega
      have hlt' : (k : Int) < 12 := by omega
      obtain ⟨s, hs⟩ : ∃ s : ByteArray, s = ⟨(Lx.strs.getD k []).toArray⟩ := ⟨_, rfl⟩
      rw [← hs] at hidx hsb
      have HS := Lib.hid hs
      clear hs
      go_wp2
      go_loopw [12] (fun i wr => ∃ j : Nat, j ≤ s.size ∧ i = .int .i64 (j : Int) ∧ wr = w1.alloc (.cells (Lx.cv (Lx.put k (Lx.tabN k) (s.data.toList.take j))) 42)) (fun i _ => s.size - (intOf i).toNat)
      case atStart => exact ⟨0, by omega, rfl, rfl⟩
      case round =>
        obtain ⟨j, hj, rfl, rfl⟩ := hrel
        by_cases hjl : j < s.size
        · have hjl' : (j : Int) < (s.size : Int) := by omega
          obtain ⟨x, hx⟩ : ∃ x : UInt8, s[j]'hjl = x := ⟨_, rfl⟩
          have hxl : s.data.toList[j]? = some x := by rw [← hx]; exact Lib.data_getElem? s j hjl
          have hx256 : (x.toNat : Int) < 256 := by have := UInt8.toNat_lt x; omega
          have hlen := (Lx.put_length k (s.data.toList.take j) (Lx.tabN k)).trans (Lx.tabN_length k)
          have hsn : Lx.put k (Lx.tabN k) (s.data.toList.take (j + 1)) = (Lx.put k (Lx.tabN k) (s.data.toList.take j)).set x.toNat k := by
            rw [List.take_add_one, hxl]
            exact Lx.put_snoc _ _ _ _
          have HSN := Lib.hid hsn
          clear hxl hsn
          generalize Lx.put k (Lx.tabN k) (s.data.toList.take j) = T at *
          have hcell := Lx.cv_get T x.toNat (by omega)
          have HST := Lib.hid (Lx.cv_set T x.toNat k)
          generalize T[x.toNat]'(by omega) = v0 at *
          clear hlen
          go_wp2
          exact ⟨⟨j + 1, by omega, by go_num, by rw [HSN.out, ← HST.out]⟩, by simp [intOf]; omega⟩
        · obtain rfl : j = s.size := by omega
          have hfull : Lx.put k (Lx.tabN k) (s.data.toList.take s.size) = Lx.tabN (k + 1) := by
            rw [List.take_of_length_le (by simp), HS.out]
            rfl
          rw [hfull]
          clear hfull
          go_wp2
          exact ⟨⟨k + 1, by omega, by go_num, rfl⟩, by simp [intOf]; omega⟩
    · obtain rfl : k = 12 := by omega
      rw [Lx.tabN_end]
      have hsz : (Lx.cv Lx.tabC).size = 256 := by rw [Lx.cv_size]; simp [Lx.tabC]
      have h1 := Lx.cv_one Lx.tabC
      generalize hTC : Lx.cv Lx.tabC = TC at hsz h1 ⊢
      have HTC := Lib.hid hTC
      have HZ := Lib.hid hsz
      have H1 := Lib.hid h1
      clear hsz h1 hTC
      have HI : Hid ((Tryd.prog.info? 42).map (·.size) = some TC.size) := Lib.hid (by rw [HZ.out]; exact HI42.out)
      have hne : b0 ≠ w1.heap.size := by have := HSZ.out; omega
      have HO : Hid ((w1.alloc (.cells TC 42)).heap[b0]? = some (.cells T0 42 (0, 0))) := Lib.hid ((Below.heap_alloc w1 _ b0 (by have := HSZ.out; omega)).trans HB1.out.1)
      go_wp2_with (first
        | (refine wpList_load_row rfl _ _ rfl w1.heap.size rfl 42 _ (0, 0) _ (heap_alloc_new w1 _) Tryd.underlying42 rfl HI.out ?_)
        | (refine wpList_store_row rfl _ _ _ rfl b0 _ rfl rfl 42 _ HO.out HI.out (HS0.out.trans HZ.out.symm) H1.out ?_))
      refine bodyPost_ret (results_cell_row rfl _ _ b0 42 TC (0, 0) _ rfl (setRow_heap _ _ _ _ _ _ HO.out) Tryd.underlying42 rfl HI.out) rfl ⟨by rw [HTC.out], ?_⟩
      rw [HB0.out]
      exact below_setRow (HB1.out.2.alloc (by have := HSZ.out; omega) _) (Nat.le_refl _) _
end Go.Proofs.YtkbnaendlcjjbaaDoor
