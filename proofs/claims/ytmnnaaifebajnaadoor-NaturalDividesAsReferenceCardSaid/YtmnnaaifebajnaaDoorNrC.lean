/- The reference of layer 4: text. -/
import Derived.Test.YtmnnaaifebajnaaDoorNrB
import Derived.Test.YtmnnaaifebajnaaDoorNaJ
set_option linter.unusedSimpArgs false
set_option linter.unusedVariables false
namespace Go.Proofs.YtmnnaaifebajnaaDoor
open Go.RowKit
set_option maxRecDepth 100000

theorem info8 : (Tryd.prog.info? 5).map (fun i => (i.zero, i.size, i.bytes)) = some (some (.int .u8 0), 1, 1) := by kernel_rfl

/-- 'make([]byte, n)'. -/
theorem list_make8 {w : World} {ops : Array Oper} {rest : List Oper} {o : Oper} {a : Act} {Q : Exit → Act → World → Prop} (hg : o.guard = none) (l c : Operand) (t : TypeId) (hop : o.op = Op.makeSlice t l c) (ht : Tryd.prog.underlying t = some (.slice 5))
    (n : Nat) (hn : n ≤ 1000000) (hl : a.eval l = .int .i64 (n : Int)) (hc : a.eval c = .int .i64 (n : Int))
    (h : ∀ w', w'.heap[w.heap.size]? = some (.cells (((List.replicate n (0 : UInt8)).map fun b : UInt8 => Value.int .u8 b.toNat).toArray) 5 (0, 0)) → Below w.heap.size w w' → wpList Tryd.prog ops Q rest (a.put o.dst (.slice (some ⟨w.heap.size, 0, none⟩) n n)) w') :
    wpList Tryd.prog ops Q (o :: rest) a w := by
  obtain ⟨i0, hi, hz0, hz1, hz2⟩ := info_parts info8
  refine wpList_plain hg fun K hK' => ?_
  have hrun := run_make_row (P := Tryd.prog) t 5 i0 (.int .u8 0) ht hi hz0 hz1 rfl .i64 .i64 n (by rw [hz2]; omega) (by omega) w
  unfold Oper.wp
  simp [execOp, hop, hl, hc, hrun, Result.andThen]
  refine hK' _ _ (h _ ?_ ((Below.refl _ _).alloc (Nat.le_refl _) _))
  rw [heap_alloc_new]
  have e : madeCells #[Value.int .u8 0] n = (((List.replicate n (0 : UInt8)).map fun b : UInt8 => Value.int .u8 b.toNat).toArray) := by
    apply Array.ext'
    rw [toList_madeCells_one]
    simp
  rw [e]

/- A row of characters at a block. -/
def Row8 (w : World) (g : Nat) (L : List UInt8) : Prop := w.heap[g]? = some (.cells ((L.map fun b : UInt8 => Value.int .u8 b.toNat).toArray) 5 (0, 0))
theorem Row8.cell {w : World} {g : Nat} {L : List UInt8} (h : Row8 w g L) (k : Nat) (hk : k < L.length) : w.cell? ⟨g, k, none⟩ = some (.int .u8 (L[k].toNat : Int)) := by
  unfold Row8 at h
  rw [cell_of_row w g k _ _ _ h]
  simp [List.getElem?_eq_getElem hk]
theorem Row8.frozen {w : World} {g : Nat} {L : List UInt8} (h : Row8 w g L) (k : Nat) : w.frozen? ⟨g, k, none⟩ = false := Lib.frozen_of_heap h k
theorem Row8.stored {w : World} {g : Nat} {L : List UInt8} (h : Row8 w g L) (k : Nat) (c : UInt8) : Row8 (w.setCell ⟨g, k, none⟩ (.int .u8 (c.toNat : Int))) g (L.set k c) := by
  unfold Row8 at h ⊢
  simp [World.setCell, Array.getElem?_modify, h, List.map_set]
theorem Row8.string {w : World} {g : Nat} {L : List UInt8} (h : Row8 w g L) (c : Nat) : (convert 71 9 (.slice (some ⟨g, 0, none⟩) L.length c)).run Tryd.prog w = .ok (.string ⟨L.toArray⟩) w := by
  refine run_convert_bytes_back (P := Tryd.prog) w 71 9 5 ⟨g, 0, none⟩ c L Tryd.underlying71 Tryd.underlying5 Tryd.underlying9 (fun j hj => ?_)
  have e : (⟨g, 0, none⟩ : Addr).add j = ⟨g, j, none⟩ := by unfold Addr.add; split <;> simp_all
  rw [e]
  exact h.cell j hj

theorem chars_step (ds : List Nat) (n i : Nat) (hn : n = ds.length) (hi : i < n) :
    (List.replicate (n - i) 0 ++ Na.chars (ds.take i)).set (n - 1 - i) (UInt8.ofNat (48 + ds.getD i 0)) = List.replicate (n - (i + 1)) 0 ++ Na.chars (ds.take (i + 1)) := by
  have e1 : Na.chars (ds.take (i + 1)) = UInt8.ofNat (48 + ds.getD i 0) :: Na.chars (ds.take i) := by
    have e : ds.take (i + 1) = ds.take i ++ [ds.getD i 0] := by
      rw [List.take_add_one, List.getElem?_eq_getElem (by omega), List.getD_eq_getElem?_getD, List.getElem?_eq_getElem (by omega)]
      rfl
    unfold Na.chars
    rw [e, List.map_append, List.reverse_append]
    rfl
  have e2 : List.replicate (n - i) (0 : UInt8) = List.replicate (n - (i + 1)) 0 ++ [0] := by
    rw [show n - i = (n - (i + 1)) + 1 by omega, List.replicate_succ']
  rw [e1, e2, List.append_assoc, List.set_append_right _ _ (by simp; omega)]
  simp
  rw [show n - 1 - i - (n - (i + 1)) = 0 by omega]
  rfl

set_option maxHeartbeats 1000000 in
theorem text_digits (A : Option Addr) (ds : List Nat) (c : Nat) (w : World) (hs : Ints w w.heap.size A ds) (hl : ds.length ≤ 5000) (h0 : ds ≠ []) (hd : ∀ d ∈ ds, d < 10) :
    Calls Tryd.prog 57 #[.slice A ds.length c] w fun e w' => e = .returned (.string (tx (Na.lt10 ds))) ∧ Below w.heap.size w w' := by
  have HS := Lib.hid hs
  have TR := Lib.hid (fun w' => trim_digits (Na.chars ds) w' (fun e => h0 (by have := congrArg List.length e; rw [Na.chars_len] at this; exact List.eq_nil_of_length_eq_zero this)) (by rw [Na.chars_len]; omega) (Na.chars_all ds hd))
  rw [Na.val_chars ds hd] at TR
  have HD := Lib.hid hd
  obtain ⟨n, hn⟩ : ∃ n, n = ds.length := ⟨_, rfl⟩
  have hn0 : 0 < n := by rw [hn]; exact List.length_pos_iff.2 h0
  rw [← hn] at hl ⊢
  have HN := Lib.hid hn
  have HCS := Lib.hid (fun i => chars_step ds n i hn)
  have HC0 : Hid (List.replicate (n - 0) 0 ++ Na.chars (ds.take 0) = List.replicate n (0 : UInt8)) := Lib.hid (by simp [Na.chars])
  have HCN : Hid (List.replicate (n - n) 0 ++ Na.chars (ds.take n) = Na.chars ds) := Lib.hid (by rw [hn]; simp)
  have HLE : Hid (∀ i, i ≤ n → (List.replicate (n - i) 0 ++ Na.chars (ds.take i)).length = n) := Lib.hid (fun i hi => by rw [List.length_append, List.length_replicate, Na.chars_len, List.length_take]; omega)
  obtain ⟨q, hq⟩ : ∃ q, q = n - 1 := ⟨_, rfl⟩
  have hw1 : IntKind.i64.wrap ((n : Int) - 1) = (q : Int) := by rw [IntKind.wrap_i64]; omega
  have HQ := Lib.hid hq
  clear hs h0 hd hn hq
  go_enter Tryd.func57, Tryd.ntmps57
  go_wp2_with (first
    | (at_make
       refine list_make8 rfl (.tmp 6) (.tmp 6) 71 rfl rfl n (by omega) rfl rfl ?_
       intro w1 hh1 hb1
       have HH1 : Hid (Row8 w1 w.heap.size (List.replicate n 0)) := Lib.hid hh1
       clear hh1)
    | fail)
  go_loopw [4] (fun i wr => ∃ k : Nat, k ≤ n ∧ i = .int .i64 (k : Int) ∧ Hid (Row8 wr w.heap.size (List.replicate (n - k) 0 ++ Na.chars (ds.take k))) ∧ Below w.heap.size w wr) (fun i _ => n - (intOf i).toNat)
  case atStart => exact ⟨0, by omega, by first | rfl | (congr 1), Lib.hid (by rw [HC0.out]; exact HH1.out), hb1⟩
  case round =>
    clear HH1 hb1
    obtain ⟨k, hk, rfl, HR, hb⟩ := hrel
    by_cases hlt : k < n
    · obtain ⟨ad, rfl, _, hca⟩ := (HS.out.bt hb) k (by rw [← HN.out]; exact hlt)
      have hx : ds.getD k 0 < 10 := by
        have := HD.out (ds.getD k 0)
        rw [List.getD_eq_getElem?_getD, List.getElem?_eq_getElem (by rw [← HN.out]; exact hlt)] at this ⊢
        exact this (List.getElem_mem _)
      have HST := Lib.hid (HCS.out k hlt)
      generalize ds.getD k 0 = d at *
      obtain ⟨j, hj⟩ : ∃ j, j = n - 1 - k := ⟨_, rfl⟩
      have hw2 : IntKind.i64.wrap ((q : Int) - (k : Int)) = (j : Int) := by rw [IntKind.wrap_i64]; have := HQ.out; omega
      have hjn : j < n := by omega
      obtain ⟨vv, hcell⟩ : ∃ v, wr.cell? ⟨w.heap.size, j, none⟩ = some v := ⟨_, HR.out.cell j (by rw [HLE.out k hk]; exact hjn)⟩
      have hfr := HR.out.frozen j
      have HR2 := Lib.hid (HR.out.stored j (UInt8.ofNat (48 + d)))
      have hb2 := hb.setCell (p := ⟨w.heap.size, j, none⟩) (Nat.le_refl _) (.int .u8 ((UInt8.ofNat (48 + d)).toNat : Int))
      rw [← hj] at HST
      have HT : Hid ((((UInt8.ofNat (48 + d)).toNat : Nat) : Int) = 48 + (d : Int)) := Lib.hid (by
        have : d < 10 := hx
        rw [UInt8.toNat_ofNat']
        omega)
      rw [HT.out] at HR2 hb2
      clear HS HLE hj
      have HRX := Lib.hid HR2.out
      go_wp2
      refine ⟨⟨k + 1, by omega, by go_num, Lib.hid ?_, hb2⟩, by simp [intOf]; omega⟩
      rw [← HST.out]
      exact HRX.out
    · obtain rfl : k = n := by omega
      rw [HCN.out] at HR
      have hcv := HR.out.string k
      rw [show (Na.chars ds).length = k by rw [Na.chars_len]; exact HN.out.symm] at hcv
      clear HS HLE HCS HC0 HCN HR
      go_wp2_with fail
      refine (TR.out wr).mono ?_
      rintro e w1 ⟨rfl, rfl⟩
      go_wp2_with fail
      go_ret
      exact ⟨rfl, hb⟩
end Go.Proofs.YtmnnaaifebajnaaDoor
