/- P2.3: the walk of TreeBinds. -/
import Derived.Test.YtkakbookioimhaaDoorTrM
import Derived.Test.YtkakbookioimhaaDoorTrV
import Derived.Test.YtkakbookioimhaaDoorTrT
import Derived.Test.YtkakbookioimhaaDoorRootsW
import Derived.Test.YtkakbookioimhaaDoorIncludesW
import Derived.WalkKit
namespace Go.Proofs.YtkakbookioimhaaDoor
open Go.RowKit

theorem pathTexts_le : ∀ (N n i : Nat) (s : ByteArray) (p : List ByteArray), n ≤ N → 1 ≤ n → s.size ≤ 1000000000 → (∀ x ∈ p, x.size ≤ 1000000000) → p.length = Tr.len n i → ∀ x ∈ Tr.pathTexts n i s p, x.size ≤ 140737488355328
  | 0, n, i, s, p, h, h1, hs, hz, hl => by omega
  | N + 1, n, i, s, p, h, h1, hs, hz, hl => by
    by_cases h2 : n ≤ 1
    · rw [Tr.pathTexts_one i s p h2]
      intro x hx
      rw [List.mem_singleton.1 hx]
      exact jn_le (sz2 (szl [_, _, _, _] (by decide)) hs) (by simp)
    · have l1 := Tr.half_lt (n := n) (by omega)
      have l2 := Tr.half_pos n
      obtain ⟨j, hj, j1, j2⟩ := len_step (n := n) (i := i) (by omega)
      have hne : p ≠ [] := fun e => by rw [e, hj] at hl; simp at hl
      have hlast : (p.getLastD ⟨#[]⟩).size ≤ 1000000000 := by
        rw [List.getLastD_eq_getLast?, List.getLast?_eq_some_getLast hne]
        exact hz _ (List.getLast_mem hne)
      have hz' : ∀ x ∈ p.dropLast, x.size ≤ 1000000000 := fun x h => hz x (List.dropLast_subset p h)
      have hdl : p.dropLast.length = j := by rw [List.length_dropLast, hl, hj]; rfl
      have lfz : (Tr.leaf s).size ≤ 1000000000 := by rw [Tr.leaf, Tr.dg_size]; omega
      by_cases hi : i < Tr.half n
      · rw [Tr.pathTexts_lo s p (by omega) hi]
        intro x hx
        rcases List.mem_append.1 hx with hx | hx
        · exact pathTexts_le N (Tr.half n) i s p.dropLast (by omega) l2 hs hz' (by rw [hdl, j1 hi]) x hx
        · rw [List.mem_singleton.1 hx]
          exact jn_le (sz3 (szl [_, _, _, _] (by decide)) (up_size _ (by omega) _ _ _ _ lfz) hlast) (by simp)
      · rw [Tr.pathTexts_hi s p (by omega) hi]
        intro x hx
        rcases List.mem_append.1 hx with hx | hx
        · exact pathTexts_le N (n - Tr.half n) (i - Tr.half n) s p.dropLast (by omega) (by omega) hs hz' (by rw [hdl, j2 hi]) x hx
        · rw [List.mem_singleton.1 hx]
          exact jn_le (sz3 (szl [_, _, _, _] (by decide)) hlast (up_size _ (by omega) _ _ _ _ lfz)) (by simp)

/-- What a path that proves says. -/
theorem check_says {rt : ByteArray} {n i : Nat} {s : ByteArray} {p : List ByteArray} (h : Tr.check rt n i s p = true) : p.length = Tr.len n i ∧ Tr.up n i (Tr.leaf s) p = rt := by
  unfold Tr.check at h
  simp only [Int.toNat_natCast, Bool.and_eq_true, decide_eq_true_eq] at h
  exact ⟨h.1.2, h.2⟩

theorem few20_val (A : Option Addr) (c : Nat) (ss : List ByteArray) (b : Bool) (hb : few20 ss = b) (w : World) (hs : Strs w w.heap.size A ss) (hn : ss.length ≤ maxLen) :
    Calls Tryd.prog 10 #[.slice A ss.length c] w fun e w' => e = .returned (.bool b) ∧ w = w' := by
  subst hb
  exact few20_any A c ss w hs hn

set_option maxRecDepth 100000 in
set_option maxHeartbeats 1000000 in
/-- The cases in which nothing is asked. -/
theorem binds_out (A : Option Addr) (c : Nat) (ss : List ByteArray) (r : Int) (s : ByteArray) (A' : Option Addr) (c' : Nat) (p : List ByteArray) (W : World) (hp : Pow W.heap.size W) (hs : Strs W W.heap.size A ss) (hc : ss.length ≤ maxLen) (ht : Strs W W.heap.size A' p) (hc' : p.length ≤ maxLen)
    (h : few20 ss = false ∨ few20 p = false ∨ 100 < s.size ∨ ss.length = 0) :
    Calls Tryd.prog 5 #[.slice A ss.length c, .int .u8 r, .string s, .slice A' p.length c'] W fun e w' => e = .returned (.bool true) ∧ Below W.heap.size W w' := by
  have F1 := fun b hb => Lib.hid (fun w' (hb' : Below W.heap.size W w') => few20_val A c ss b hb w' (hs.bt hb') hc)
  have F2 := fun b hb => Lib.hid (fun w' (hb' : Below W.heap.size W w') => few20_val A' c' p b hb w' (ht.bt hb') hc')
  clear hs ht hc hc'
  cases h1 : few20 ss with
  | false =>
    have F1' := F1 _ h1
    clear F1 F2 h h1
    go_enter Tryd.func5, Tryd.ntmps5
    go_wp2_with fail
    refine (head_any W hp).mono ?_
    rintro e w1 ⟨rfl, hb1⟩
    go_wp2_with fail
    refine (F1'.out w1 hb1).mono ?_
    rintro e w1' ⟨rfl, rfl⟩
    go_wp2_with fail
    go_ret
    exact ⟨rfl, hb1⟩
  | true =>
    have F1' := F1 _ h1
    cases h2 : few20 p with
    | false =>
      have F2' := F2 _ h2
      clear F1 F2 h h1 h2
      go_enter Tryd.func5, Tryd.ntmps5
      go_wp2_with fail
      refine (head_any W hp).mono ?_
      rintro e w1 ⟨rfl, hb1⟩
      go_wp2_with fail
      refine (F1'.out w1 hb1).mono ?_
      rintro e w1' ⟨rfl, rfl⟩
      go_wp2_with fail
      refine (F2'.out w1 hb1).mono ?_
      rintro e w1' ⟨rfl, rfl⟩
      go_wp2_with fail
      go_ret
      exact ⟨rfl, hb1⟩
    | true =>
      have F2' := F2 _ h2
      by_cases h3 : 100 < s.size
      · clear F1 F2 h h1 h2
        have h4 : (100 : Int) < (s.size : Int) := by omega
        go_enter Tryd.func5, Tryd.ntmps5
        go_wp2_with fail
        refine (head_any W hp).mono ?_
        rintro e w1 ⟨rfl, hb1⟩
        go_wp2_with fail
        refine (F1'.out w1 hb1).mono ?_
        rintro e w1' ⟨rfl, rfl⟩
        go_wp2_with fail
        refine (F2'.out w1 hb1).mono ?_
        rintro e w1' ⟨rfl, rfl⟩
        go_wp2_with fail
        go_ret
        exact ⟨rfl, hb1⟩
      · have h4 : ss.length = 0 := by
          rcases h with h | h | h | h
          · rw [h1] at h; cases h
          · rw [h2] at h; cases h
          · exact absurd h h3
          · exact h
        rw [h4] at F1' ⊢
        have h5 : (s.size : Int) ≤ 100 := by omega
        clear F1 F2 h h1 h2 h4
        go_enter Tryd.func5, Tryd.ntmps5
        go_wp2_with fail
        refine (head_any W hp).mono ?_
        rintro e w1 ⟨rfl, hb1⟩
        go_wp2_with fail
        refine (F1'.out w1 hb1).mono ?_
        rintro e w1' ⟨rfl, rfl⟩
        go_wp2_with fail
        refine (F2'.out w1 hb1).mono ?_
        rintro e w1' ⟨rfl, rfl⟩
        go_wp2_with fail
        go_ret
        exact ⟨rfl, hb1⟩

set_option maxRecDepth 100000 in
set_option maxHeartbeats 1000000 in
theorem binds_in (A : Option Addr) (c : Nat) (ss : List ByteArray) (r : Nat) (s : ByteArray) (A' : Option Addr) (c' : Nat) (p : List ByteArray) (W : World) (hp : Pow W.heap.size W) (hs : Strs W W.heap.size A ss) (hc : ss.length ≤ c) (hm : c ≤ maxLen) (ht : Strs W W.heap.size A' p) (hc' : p.length ≤ c') (hm' : c' ≤ maxLen)
    (r1 : r ≤ 255) (hf : few20 ss = true) (hg : few20 p = true) (hs100 : s.size ≤ 100) (hn0 : ss.length ≠ 0) :
    Calls Tryd.prog 5 #[.slice A ss.length c, .int .u8 (r : Int), .string s, .slice A' p.length c'] W fun e w' => e = .returned (.bool true) ∧ Below W.heap.size W w' := by
  have F1 := Lib.hid (fun w' (hb' : Below W.heap.size W w') => few20_val A c ss true hf w' (hs.bt hb') (by omega))
  have F2 := Lib.hid (fun w' (hb' : Below W.heap.size W w') => few20_val A' c' p true hg w' (ht.bt hb') (by omega))
  obtain ⟨h20, hz⟩ := few20_bounds hf
  obtain ⟨h20', hz'⟩ := few20_bounds hg
  clear hf hg
  have E := Lib.hid (show (r : Int) % (ss.length : Int) = ((r % ss.length : Nat) : Int) by rw [Int.natCast_emod])
  have hml : r % ss.length < ss.length := Nat.mod_lt r (by omega)
  generalize r % ss.length = i at *
  obtain ⟨ad, rfl, _, hcell⟩ := hs i hml
  have hxi : ss.getD i ByteArray.empty = ss[i] := by rw [List.getD_eq_getElem?_getD, List.getElem?_eq_getElem hml]; rfl
  have hbind := Tr.path_binds _ ss i s p (Nat.le_refl _) hml
  rw [← hxi] at hbind
  have HBD := Lib.hid hbind
  clear hbind hxi
  generalize ss.getD i ByteArray.empty = x at *
  have hne : ((ss.length : Int) == 0) = false := by rw [beq_eq_false_iff_ne]; omega
  have hnz : (ss.length : Int) ≠ 0 := by omega
  have HS := Lib.hid hs
  have HT := Lib.hid ht
  have HZ := Lib.hid hz
  have HZ' := Lib.hid hz'
  have HC := Lib.hid hcell
  clear hs ht hz hz' hcell
  have R2 := Lib.hid (fun w' (hb : Below W.heap.size W w') => root_any (some ad) c ss w' hc hm (HS.out.bt hb) HZ.out (hp.bt hb))
  have i1 : (0 : Int) ≤ (i : Int) := by omega
  have i2 : (i : Int) < (ss.length : Int) := by omega
  have i3 : (s.size : Int) ≤ 100 := by omega
  by_cases hsx : s = x
  · subst hsx
    go_enter Tryd.func5, Tryd.ntmps5
    go_wp2_with fail
    refine (head_any W hp).mono ?_
    rintro e w1 ⟨rfl, hb1⟩
    go_wp2_with fail
    refine (F1.out w1 hb1).mono ?_
    rintro e w1' ⟨rfl, rfl⟩
    go_wp2_with fail
    refine (F2.out w1 hb1).mono ?_
    rintro e w1' ⟨rfl, rfl⟩
    have hc1 := cell_bt HC.out hb1
    have E' := E.out
    go_wp2_with fail
    go_ret
    exact ⟨rfl, hb1⟩
  · have hsb := bytes_ne hsx
    have C1 := fun b hb => Lib.hid (fun w' (hb' : Below W.heap.size W w') => check_ex (Tr.root ss) s ss.length i A' c' _ p rfl b hb w' (by omega) (HT.out.bt hb') HZ'.out hc' hm' (hp.bt hb'))
    cases hch : Tr.check (Tr.root ss) ss.length i s p with
    | false =>
      have C1' := C1 _ hch
      clear C1 hch hsx
      go_enter Tryd.func5, Tryd.ntmps5
      go_wp2_with fail
      refine (head_any W hp).mono ?_
      rintro e w1 ⟨rfl, hb1⟩
      go_wp2_with fail
      refine (F1.out w1 hb1).mono ?_
      rintro e w1' ⟨rfl, rfl⟩
      go_wp2_with fail
      refine (F2.out w1 hb1).mono ?_
      rintro e w1' ⟨rfl, rfl⟩
      have hc1 := cell_bt HC.out hb1
      have E' := E.out
      go_wp2_with fail
      refine (R2.out w1 hb1).mono ?_
      rintro e w2 ⟨rfl, hb2⟩
      have hb2' := Bt hb1 hb2
      go_wp2_with fail
      refine (C1'.out w2 hb2').mono ?_
      rintro e w3 ⟨rfl, hb3⟩
      have hb3' := Bt hb2' hb3
      go_wp2_with fail
      go_ret
      exact ⟨rfl, hb3'⟩
    | true =>
      have C1' := C1 _ hch
      obtain ⟨hpl, hup⟩ := check_says hch
      have hown := Tr.path_length _ ss i (Nat.le_refl _) hml
      have HSH := Lib.hid (show Tr.Shown (Tr.texts ss ++ Tr.pathTexts ss.length i s p) by
        rcases HBD.out hup with h | h
        · exact absurd h hsx
        · exact h)
      have T1 := Lib.hid (fun w' (hb : Below W.heap.size W w') => texts_any _ (some ad) c ss w' (Nat.le_refl _) hc hm (by omega) (HS.out.bt hb) HZ.out)
      have P1 := Lib.hid (fun w' (hb : Below W.heap.size W w') => pathTexts_any _ ss.length i s A' c' p w' (Nat.le_refl _) hml (by omega) hpl hc' hm' (HT.out.bt hb) HZ'.out (by omega))
      have tl1 := (texts_length _ ss (Nat.le_refl _)).1
      have tl2 := pathTexts_length _ ss.length i s p (Nat.le_refl _) (by omega)
      have TZ := Lib.hid (show ∀ x ∈ Tr.texts ss ++ Tr.pathTexts ss.length i s p, x.size ≤ 140737488355328 from fun x h => by
        rcases List.mem_append.1 h with h | h
        · exact texts_le _ ss (Nat.le_refl _) HZ.out x h
        · exact pathTexts_le _ ss.length i s p (Nat.le_refl _) (by omega) (by omega) HZ'.out hpl x h)
      have PO := Lib.hid (fun w' (hb : Below W.heap.size W w') => Path_ok (some ad) c ss i w' hml hc hm (by omega) (HS.out.bt hb) HZ.out (hp.bt hb))
      have hlen : (Tr.path ss i).length = p.length := by rw [hown, hpl]
      clear C1 hch hsx HBD hup hown hpl
      generalize Tr.texts ss = x1 at *
      generalize Tr.pathTexts ss.length i s p = x2 at *
      generalize Tr.path ss i = own at *
      have HLEN := Lib.hid hlen
      clear hlen
      have k1 : ∀ a b : Nat, a = b → ((a : Int) == (b : Int)) = true := fun a b h => by rw [h]; simp
      have k2 := k1 _ _ HLEN.out
      clear k1
      go_enter Tryd.func5, Tryd.ntmps5
      go_wp2_with fail
      refine (head_any W hp).mono ?_
      rintro e w1 ⟨rfl, hb1⟩
      go_wp2_with fail
      refine (F1.out w1 hb1).mono ?_
      rintro e w1' ⟨rfl, rfl⟩
      go_wp2_with fail
      refine (F2.out w1 hb1).mono ?_
      rintro e w1' ⟨rfl, rfl⟩
      have hc1 := cell_bt HC.out hb1
      have E' := E.out
      go_wp2_with fail
      refine (R2.out w1 hb1).mono ?_
      rintro e w2 ⟨rfl, hb2⟩
      have hb2' := Bt hb1 hb2
      go_wp2_with fail
      refine (C1'.out w2 hb2').mono ?_
      rintro e w3 ⟨rfl, hb3⟩
      have hb3' := Bt hb2' hb3
      go_wp2_with fail
      refine (PO.out w3 hb3').mono ?_
      rintro e w4 ⟨v4, rfl, ho4, hb4⟩
      have hb4' := Bt hb3' hb4
      obtain ⟨A4, c4, rfl, _, _, _⟩ := ho4.form
      clear ho4
      rw [HLEN.out]
      go_wp2_with fail
      refine (T1.out w4 hb4').mono ?_
      rintro e w5 ⟨v5, rfl, ho5, hb5⟩
      have hb5' := Bt hb4' hb5
      go_wp2_with fail
      refine (P1.out w5 hb5').mono ?_
      rintro e w6 ⟨v6, rfl, ho6, hb6⟩
      have hb6' := Bt hb5' hb6
      have ho56 := own_below ho5 hb6
      go_wp2_with (first
        | (at_builtin
           refine list_append2 ?hw (.tmp 74) (.tmp 80) ?ho w4.heap.size v5 x1 ?hs ho56 v6 _ x2 ?hx ho6 (by omega) (Bt hb5 hb6).size ?_
           case hw => simp [Region.wanted, yielded]
           case ho => rfl
           case hs => rfl
           case hx => rfl
           intro v7 w7 ho7 hb7
           have hb7' := hb6'.trans (hb7.mono (hb4'.size))
           obtain ⟨A7, c7, rfl, hs7, hc7, hm7⟩ := ho7.form
           have HS7 := Lib.hid hs7
           clear hs7)
        | fail)
      with_reducible refine (shown_len A7 c7 (x1 ++ x2) (x1.length + x2.length) (by simp) w7 HS7.out (by omega) TZ.out HSH.out).mono ?_
      rintro e w8 ⟨rfl, hb8⟩
      have hb8' := Bt hb7' hb8
      go_wp2_with fail
      go_ret
      exact ⟨rfl, hb8'⟩

theorem binds_walk (A : Option Addr) (c : Nat) (ss : List ByteArray) (r : Int) (s : ByteArray) (A' : Option Addr) (c' : Nat) (p : List ByteArray) (W : World) (hp : Pow W.heap.size W) (hs : Strs W W.heap.size A ss) (hc : ss.length ≤ c) (hm : c ≤ maxLen) (hr : (Go.Lit.int .u8 r).wf = true) (_ : s.size ≤ maxLen) (ht : Strs W W.heap.size A' p) (hc' : p.length ≤ c') (hm' : c' ≤ maxLen) :
    Calls Tryd.prog 5 #[.slice A ss.length c, .int .u8 r, .string s, .slice A' p.length c'] W fun e w' => e = .returned (.bool true) ∧ Below W.heap.size W w' := by
  by_cases h : few20 ss = false ∨ few20 p = false ∨ 100 < s.size ∨ ss.length = 0
  · exact binds_out A c ss r s A' c' p W hp hs (by omega) ht (by omega) h
  · obtain ⟨r0, r1⟩ : IntKind.u8.min ≤ r ∧ r ≤ IntKind.u8.max := by simpa [Go.Lit.wf] using hr
    change 0 ≤ r at r0
    change r ≤ 255 at r1
    obtain ⟨r, rfl⟩ : ∃ k : Nat, r = k := ⟨r.toNat, by omega⟩
    have h1 : few20 ss = true := by
      cases e : few20 ss with
      | true => rfl
      | false => exact absurd (.inl e) h
    have h2 : few20 p = true := by
      cases e : few20 p with
      | true => rfl
      | false => exact absurd (.inr (.inl e)) h
    exact binds_in A c ss r s A' c' p W hp hs hc hm ht hc' hm' (by omega) h1 h2 (by omega) (by omega)
end Go.Proofs.YtkakbookioimhaaDoor
