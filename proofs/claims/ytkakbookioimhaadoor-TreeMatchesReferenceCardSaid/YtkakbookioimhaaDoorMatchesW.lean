/- P2.1: the walk of TreeMatchesReference. -/
import Derived.Test.YtkakbookioimhaaDoorTrM
import Derived.Test.YtkakbookioimhaaDoorTrY
import Derived.Test.YtkakbookioimhaaDoorTrZE
import Derived.Test.YtkakbookioimhaaDoorRootsW
import Derived.Test.YtkakbookioimhaaDoorBindsW
import Derived.WalkKit
namespace Go.Proofs.YtkakbookioimhaaDoor
open Go.RowKit

/-- What Path returns, with its error, and what Link returns. -/
def pathE (l : List ByteArray) (i : Int) : List ByteArray × Int := if 0 ≤ i ∧ i < l.length then (Tr.path l i.toNat, 0) else ([], 1)
def linkE (l : List ByteArray) (m : Int) : List ByteArray × Int := if 0 ≤ m ∧ m ≤ l.length then (Tr.Link l m.toNat, 0) else ([], 1)

theorem Path_val (A : Option Addr) (c : Nat) (ss : List ByteArray) (i : Int) (w : World) (hc : ss.length ≤ c) (hm : c ≤ maxLen) (hM : ss.length ≤ 1000000) (hs : Strs w w.heap.size A ss) (hz : ∀ s ∈ ss, s.size ≤ 1000000000) (hp : Pow w.heap.size w) :
    Calls Tryd.prog 11 #[.slice A ss.length c, .int .i64 i] w (GivesE (pathE ss i).1 (pathE ss i).2 w) := by
  unfold pathE
  by_cases h : 0 ≤ i ∧ i < ss.length
  · rw [if_pos h]
    obtain ⟨k, rfl⟩ : ∃ k : Nat, i = k := ⟨i.toNat, by omega⟩
    exact Path_ok A c ss k w (by omega) hc hm hM hs hz hp
  · rw [if_neg h]
    exact Path_err A c ss.length i w (by omega)

theorem rPath_val (A : Option Addr) (c : Nat) (ss : List ByteArray) (i : Int) (w : World) (hc : ss.length ≤ c) (hm : c ≤ maxLen) (hM : ss.length ≤ 1000000) (hs : Strs w w.heap.size A ss) (hz : ∀ s ∈ ss, s.size ≤ 1000000000) :
    Calls Tryd.prog 12 #[.slice A ss.length c, .int .i64 i] w (GivesE (pathE ss i).1 (pathE ss i).2 w) := by
  unfold pathE
  by_cases h : 0 ≤ i ∧ i < ss.length
  · rw [if_pos h]
    obtain ⟨k, rfl⟩ : ∃ k : Nat, i = k := ⟨i.toNat, by omega⟩
    exact rPath_ok A c ss k w (by omega) hc hm hM hs hz
  · rw [if_neg h]
    exact rPath_err A c ss.length i w (by omega)

theorem Link_val (A : Option Addr) (c : Nat) (ss : List ByteArray) (i : Int) (w : World) (hc : ss.length ≤ c) (hm : c ≤ maxLen) (hM : ss.length ≤ 1000000) (hs : Strs w w.heap.size A ss) (hz : ∀ s ∈ ss, s.size ≤ 1000000000) (hp : Pow w.heap.size w) :
    Calls Tryd.prog 13 #[.slice A ss.length c, .int .i64 i] w (GivesE (linkE ss i).1 (linkE ss i).2 w) := by
  unfold linkE
  by_cases h : 0 ≤ i ∧ i ≤ ss.length
  · rw [if_pos h]
    obtain ⟨k, rfl⟩ : ∃ k : Nat, i = k := ⟨i.toNat, by omega⟩
    exact Link_ok A c ss k w (by omega) hc hm hM hs hz hp
  · rw [if_neg h]
    exact Link_err A c ss.length i w (by omega)

theorem rLink_val (A : Option Addr) (c : Nat) (ss : List ByteArray) (i : Int) (w : World) (hc : ss.length ≤ c) (hm : c ≤ maxLen) (hM : ss.length ≤ 1000000) (hs : Strs w w.heap.size A ss) (hz : ∀ s ∈ ss, s.size ≤ 1000000000) :
    Calls Tryd.prog 14 #[.slice A ss.length c, .int .i64 i] w (GivesE (linkE ss i).1 (linkE ss i).2 w) := by
  unfold linkE
  by_cases h : 0 ≤ i ∧ i ≤ ss.length
  · rw [if_pos h]
    obtain ⟨k, rfl⟩ : ∃ k : Nat, i = k := ⟨i.toNat, by omega⟩
    exact rLink_ok A c ss k w (by omega) hc hm hM hs hz
  · rw [if_neg h]
    exact rLink_err A c ss.length i w (by omega)

/-- Same of two slices that hold one list. -/
theorem same_one (A A' : Option Addr) (c c' : Nat) (ss : List ByteArray) (w : World) (hs : Strs w w.heap.size A ss) (ht : Strs w w.heap.size A' ss) (hn : ss.length ≤ maxLen) :
    Calls Tryd.prog 17 #[.slice A ss.length c, .slice A' ss.length c'] w fun e w' => e = .returned (.bool true) ∧ Below w.heap.size w w' :=
  same_val A A' c c' _ _ ss ss rfl rfl true (decide_eq_true rfl) w hs ht hn

set_option maxRecDepth 100000 in
set_option maxHeartbeats 2000000 in
/-- The cases in which nothing is asked. -/
theorem matches_out (A : Option Addr) (c : Nat) (ss : List ByteArray) (i m n : Int) (rt old s : ByteArray) (A' : Option Addr) (c' : Nat) (p : List ByteArray) (W : World) (hp : Pow W.heap.size W) (hs : Strs W W.heap.size A ss) (hc : ss.length ≤ c) (hm : c ≤ maxLen) (ht : Strs W W.heap.size A' p) (hc' : p.length ≤ c') (hm' : c' ≤ maxLen)
    (h : few20 ss = false ∨ few20 p = false ∨ 100 < rt.size ∨ 100 < old.size ∨ 100 < s.size) :
    Calls Tryd.prog 3 #[.slice A ss.length c, .int .i64 i, .int .i64 m, .int .i64 n, .string rt, .string old, .string s, .slice A' p.length c'] W fun e w' => e = .returned (.bool true) ∧ Below W.heap.size W w' := by
  have F1 := fun b hb => Lib.hid (fun w' (hb' : Below W.heap.size W w') => few20_val A c ss b hb w' (hs.bt hb') (by omega))
  have F2 := fun b hb => Lib.hid (fun w' (hb' : Below W.heap.size W w') => few20_val A' c' p b hb w' (ht.bt hb') (by omega))
  clear hs ht hc hc' hm hm'
  cases h1 : few20 ss with
  | false =>
    have F1' := F1 _ h1
    clear F1 F2 h h1
    go_enter Tryd.func3, Tryd.ntmps3
    go_wp2_with fail
    refine (head_any W hp).mono ?_
    rintro e w1 ⟨rfl, hb1⟩
    go_wp2_with fail
    refine (F1'.out w1 hb1).mono ?_
    rintro e w1' ⟨rfl, rfl⟩
    go_wp2_with fail
    go_ret
    exact ⟨rfl, hb1⟩
  | true =>
    have F1' := F1 _ h1
    cases h2 : few20 p with
    | false =>
      have F2' := F2 _ h2
      clear F1 F2 h h1 h2
      go_enter Tryd.func3, Tryd.ntmps3
      go_wp2_with fail
      refine (head_any W hp).mono ?_
      rintro e w1 ⟨rfl, hb1⟩
      go_wp2_with fail
      refine (F1'.out w1 hb1).mono ?_
      rintro e w1' ⟨rfl, rfl⟩
      go_wp2_with fail
      refine (F2'.out w1 hb1).mono ?_
      rintro e w1' ⟨rfl, rfl⟩
      go_wp2_with fail
      go_ret
      exact ⟨rfl, hb1⟩
    | true =>
      have F2' := F2 _ h2
      have h3 : 100 < rt.size ∨ 100 < old.size ∨ 100 < s.size := by
        rcases h with h | h | h
        · rw [h1] at h; cases h
        · rw [h2] at h; cases h
        · exact h
      clear F1 F2 h h1 h2
      by_cases g1 : 100 < rt.size
      · have k1 : (100 : Int) < (rt.size : Int) := by omega
        clear h3 g1
        go_enter Tryd.func3, Tryd.ntmps3
        go_wp2_with fail
        refine (head_any W hp).mono ?_
        rintro e w1 ⟨rfl, hb1⟩
        go_wp2_with fail
        refine (F1'.out w1 hb1).mono ?_
        rintro e w1' ⟨rfl, rfl⟩
        go_wp2_with fail
        refine (F2'.out w1 hb1).mono ?_
        rintro e w1' ⟨rfl, rfl⟩
        go_wp2_with fail
        go_ret
        exact ⟨rfl, hb1⟩
      · have k1 : (rt.size : Int) ≤ 100 := by omega
        by_cases g2 : 100 < old.size
        · have k2 : (100 : Int) < (old.size : Int) := by omega
          clear h3 g1 g2
          go_enter Tryd.func3, Tryd.ntmps3
          go_wp2_with fail
          refine (head_any W hp).mono ?_
          rintro e w1 ⟨rfl, hb1⟩
          go_wp2_with fail
          refine (F1'.out w1 hb1).mono ?_
          rintro e w1' ⟨rfl, rfl⟩
          go_wp2_with fail
          refine (F2'.out w1 hb1).mono ?_
          rintro e w1' ⟨rfl, rfl⟩
          go_wp2_with fail
          go_ret
          exact ⟨rfl, hb1⟩
        · have k2 : (old.size : Int) ≤ 100 := by omega
          have k3 : (100 : Int) < (s.size : Int) := by omega
          clear h3 g1 g2
          go_enter Tryd.func3, Tryd.ntmps3
          go_wp2_with fail
          refine (head_any W hp).mono ?_
          rintro e w1 ⟨rfl, hb1⟩
          go_wp2_with fail
          refine (F1'.out w1 hb1).mono ?_
          rintro e w1' ⟨rfl, rfl⟩
          go_wp2_with fail
          refine (F2'.out w1 hb1).mono ?_
          rintro e w1' ⟨rfl, rfl⟩
          go_wp2_with fail
          go_ret
          exact ⟨rfl, hb1⟩

set_option maxRecDepth 100000 in
set_option maxHeartbeats 4000000 in
theorem matches_in (A : Option Addr) (c : Nat) (ss : List ByteArray) (i m n : Int) (rt old s : ByteArray) (A' : Option Addr) (c' : Nat) (p : List ByteArray) (W : World) (hp : Pow W.heap.size W) (hs : Strs W W.heap.size A ss) (hc : ss.length ≤ c) (hm : c ≤ maxLen) (ht : Strs W W.heap.size A' p) (hc' : p.length ≤ c') (hm' : c' ≤ maxLen)
    (hf : few20 ss = true) (hg : few20 p = true) (g1 : rt.size ≤ 100) (g2 : old.size ≤ 100) (g3 : s.size ≤ 100) :
    Calls Tryd.prog 3 #[.slice A ss.length c, .int .i64 i, .int .i64 m, .int .i64 n, .string rt, .string old, .string s, .slice A' p.length c'] W fun e w' => e = .returned (.bool true) ∧ Below W.heap.size W w' := by
  have F1' := Lib.hid (fun w' (hb' : Below W.heap.size W w') => few20_val A c ss true hf w' (hs.bt hb') (by omega))
  have F2' := Lib.hid (fun w' (hb' : Below W.heap.size W w') => few20_val A' c' p true hg w' (ht.bt hb') (by omega))
  obtain ⟨h20, hz⟩ := few20_bounds hf
  obtain ⟨h20', hz'⟩ := few20_bounds hg
  clear hf hg
  have k1 : (rt.size : Int) ≤ 100 := by omega
  have k2 : (old.size : Int) ≤ 100 := by omega
  have k3 : (s.size : Int) ≤ 100 := by omega
  have HS := Lib.hid hs
  have HT := Lib.hid ht
  have HZ := Lib.hid hz
  have HZ' := Lib.hid hz'
  clear hs ht hz hz'
  have R1 := Lib.hid (fun w' (hb : Below W.heap.size W w') => root_any A c ss w' hc hm (HS.out.bt hb) HZ.out (hp.bt hb))
  have R2 := Lib.hid (fun w' (hb : Below W.heap.size W w') => rroot_cap A c ss w' hc hm (HS.out.bt hb) HZ.out (by omega))
  have P1 := Lib.hid (fun w' (hb : Below W.heap.size W w') => Path_val A c ss i w' hc hm (by omega) (HS.out.bt hb) HZ.out (hp.bt hb))
  have P2 := Lib.hid (fun w' (hb : Below W.heap.size W w') => rPath_val A c ss i w' hc hm (by omega) (HS.out.bt hb) HZ.out)
  have L1 := Lib.hid (fun w' (hb : Below W.heap.size W w') => Link_val A c ss m w' hc hm (by omega) (HS.out.bt hb) HZ.out (hp.bt hb))
  have L2 := Lib.hid (fun w' (hb : Below W.heap.size W w') => rLink_val A c ss m w' hc hm (by omega) (HS.out.bt hb) HZ.out)
  have C1 := Lib.hid (fun w' (hb : Below W.heap.size W w') => Check_any rt n i s A' c' p w' (by omega) (HT.out.bt hb) HZ'.out hc' hm' (hp.bt hb))
  have C2 := Lib.hid (fun w' (hb : Below W.heap.size W w') => rCheck_any rt n i s A' c' p w' (by omega) (HT.out.bt hb) HZ'.out hc' hm')
  have C3 := Lib.hid (fun w' (hb : Below W.heap.size W w') => Check_any (Tr.root ss) ss.length i s A' c' p w' (by omega) (HT.out.bt hb) HZ'.out hc' hm' (hp.bt hb))
  have C4 := Lib.hid (fun w' (hb : Below W.heap.size W w') => rCheck_any (Tr.root ss) ss.length i s A' c' p w' (by omega) (HT.out.bt hb) HZ'.out hc' hm')
  have X1 := Lib.hid (fun w' (hb : Below W.heap.size W w') => Extends_any old m rt n A' c' p w' (HT.out.bt hb) HZ'.out hc' hm' (hp.bt hb))
  have X2 := Lib.hid (fun w' (hb : Below W.heap.size W w') => rExtends_any old m rt n A' c' p w' (by omega) (by omega) (HT.out.bt hb) HZ'.out hc' hm')
  have X3 := Lib.hid (fun w' (hb : Below W.heap.size W w') => Extends_any old m (Tr.root ss) ss.length A' c' p w' (HT.out.bt hb) HZ'.out hc' hm' (hp.bt hb))
  have X4 := Lib.hid (fun w' (hb : Below W.heap.size W w') => rExtends_any old m (Tr.root ss) ss.length A' c' p w' (by omega) (by rw [Tr.root_size]; omega) (HT.out.bt hb) HZ'.out hc' hm')
  clear HS HT HZ HZ'
  generalize Tr.check rt n i s p = b1 at *
  generalize Tr.check (Tr.root ss) ss.length i s p = b2 at *
  generalize Tr.extends' old m rt n p = b3 at *
  generalize Tr.extends' old m (Tr.root ss) ss.length p = b4 at *
  generalize Tr.root ss = q at *
  generalize pathE ss i = pe at *
  generalize linkE ss m = le at *
  generalize ss.length = ns at *
  generalize p.length = np at *
  go_enter Tryd.func3, Tryd.ntmps3
  go_wp2_with fail
  refine (head_any W hp).mono ?_
  rintro e w1 ⟨rfl, hb1⟩
  go_wp2_with fail
  refine (F1'.out w1 hb1).mono ?_
  rintro e w1' ⟨rfl, rfl⟩
  go_wp2_with fail
  refine (F2'.out w1 hb1).mono ?_
  rintro e w1' ⟨rfl, rfl⟩
  go_wp2_with fail
  refine (P1.out w1 hb1).mono ?_
  rintro e w2 ⟨v, rfl, ho, h2⟩
  have hb2 := Bt hb1 h2
  obtain ⟨Ap, cp, rfl, s0, _, cpm⟩ := ho.form
  have Sp := Lib.hid s0
  clear ho s0
  clear h2
  go_wp2_with fail
  refine (P2.out w2 hb2).mono ?_
  rintro e w3 ⟨v, rfl, ho, h3⟩
  have hb3 := Bt hb2 h3
  replace Sp := Lib.hid (Sp.out.bt h3)
  obtain ⟨Aq, cq, rfl, s0, _, cqm⟩ := ho.form
  have Sq := Lib.hid s0
  clear ho s0
  clear h3
  go_wp2_with fail
  refine (L1.out w3 hb3).mono ?_
  rintro e w4 ⟨v, rfl, ho, h4⟩
  have hb4 := Bt hb3 h4
  replace Sp := Lib.hid (Sp.out.bt h4)
  replace Sq := Lib.hid (Sq.out.bt h4)
  obtain ⟨Ax, cx, rfl, s0, _, cxm⟩ := ho.form
  have Sx := Lib.hid s0
  clear ho s0
  clear h4
  go_wp2_with fail
  refine (L2.out w4 hb4).mono ?_
  rintro e w5 ⟨v, rfl, ho, h5⟩
  have hb5 := Bt hb4 h5
  replace Sp := Lib.hid (Sp.out.bt h5)
  replace Sq := Lib.hid (Sq.out.bt h5)
  replace Sx := Lib.hid (Sx.out.bt h5)
  obtain ⟨Ay, cy, rfl, s0, _, cym⟩ := ho.form
  have Sy := Lib.hid s0
  clear ho s0
  clear h5
  go_wp2_with fail
  refine (R1.out w5 hb5).mono ?_
  rintro e w6 ⟨rfl, h6⟩
  have hb6 := Bt hb5 h6
  replace Sp := Lib.hid (Sp.out.bt h6)
  replace Sq := Lib.hid (Sq.out.bt h6)
  replace Sx := Lib.hid (Sx.out.bt h6)
  replace Sy := Lib.hid (Sy.out.bt h6)
  clear h6
  go_wp2_with fail
  refine (R2.out w6 hb6).mono ?_
  rintro e w7 ⟨rfl, h7⟩
  have hb7 := Bt hb6 h7
  replace Sp := Lib.hid (Sp.out.bt h7)
  replace Sq := Lib.hid (Sq.out.bt h7)
  replace Sx := Lib.hid (Sx.out.bt h7)
  replace Sy := Lib.hid (Sy.out.bt h7)
  clear h7
  go_wp2_with fail
  refine (same_one Ap Aq cp cq pe.1 w7 Sp.out Sq.out (by omega)).mono ?_
  rintro e w8 ⟨rfl, h8⟩
  have hb8 := Bt hb7 h8
  replace Sp := Lib.hid (Sp.out.bt h8)
  replace Sq := Lib.hid (Sq.out.bt h8)
  replace Sx := Lib.hid (Sx.out.bt h8)
  replace Sy := Lib.hid (Sy.out.bt h8)
  clear h8
  go_wp2_with fail
  refine (same_one Ax Ay cx cy le.1 w8 Sx.out Sy.out (by omega)).mono ?_
  rintro e w9 ⟨rfl, h9⟩
  have hb9 := Bt hb8 h9
  replace Sp := Lib.hid (Sp.out.bt h9)
  replace Sq := Lib.hid (Sq.out.bt h9)
  replace Sx := Lib.hid (Sx.out.bt h9)
  replace Sy := Lib.hid (Sy.out.bt h9)
  clear h9
  go_wp2_with fail
  refine (C1.out w9 hb9).mono ?_
  rintro e w10 ⟨rfl, h10⟩
  have hb10 := Bt hb9 h10
  replace Sp := Lib.hid (Sp.out.bt h10)
  replace Sq := Lib.hid (Sq.out.bt h10)
  replace Sx := Lib.hid (Sx.out.bt h10)
  replace Sy := Lib.hid (Sy.out.bt h10)
  clear h10
  go_wp2_with fail
  refine (C2.out w10 hb10).mono ?_
  rintro e w11 ⟨rfl, h11⟩
  have hb11 := Bt hb10 h11
  replace Sp := Lib.hid (Sp.out.bt h11)
  replace Sq := Lib.hid (Sq.out.bt h11)
  replace Sx := Lib.hid (Sx.out.bt h11)
  replace Sy := Lib.hid (Sy.out.bt h11)
  clear h11
  go_wp2_with fail
  refine (R1.out w11 hb11).mono ?_
  rintro e w12 ⟨rfl, h12⟩
  have hb12 := Bt hb11 h12
  replace Sp := Lib.hid (Sp.out.bt h12)
  replace Sq := Lib.hid (Sq.out.bt h12)
  replace Sx := Lib.hid (Sx.out.bt h12)
  replace Sy := Lib.hid (Sy.out.bt h12)
  clear h12
  go_wp2_with fail
  refine (C3.out w12 hb12).mono ?_
  rintro e w13 ⟨rfl, h13⟩
  have hb13 := Bt hb12 h13
  replace Sp := Lib.hid (Sp.out.bt h13)
  replace Sq := Lib.hid (Sq.out.bt h13)
  replace Sx := Lib.hid (Sx.out.bt h13)
  replace Sy := Lib.hid (Sy.out.bt h13)
  clear h13
  go_wp2_with fail
  refine (R2.out w13 hb13).mono ?_
  rintro e w14 ⟨rfl, h14⟩
  have hb14 := Bt hb13 h14
  replace Sp := Lib.hid (Sp.out.bt h14)
  replace Sq := Lib.hid (Sq.out.bt h14)
  replace Sx := Lib.hid (Sx.out.bt h14)
  replace Sy := Lib.hid (Sy.out.bt h14)
  clear h14
  go_wp2_with fail
  refine (C4.out w14 hb14).mono ?_
  rintro e w15 ⟨rfl, h15⟩
  have hb15 := Bt hb14 h15
  replace Sp := Lib.hid (Sp.out.bt h15)
  replace Sq := Lib.hid (Sq.out.bt h15)
  replace Sx := Lib.hid (Sx.out.bt h15)
  replace Sy := Lib.hid (Sy.out.bt h15)
  clear h15
  go_wp2_with fail
  refine (X1.out w15 hb15).mono ?_
  rintro e w16 ⟨rfl, h16⟩
  have hb16 := Bt hb15 h16
  replace Sp := Lib.hid (Sp.out.bt h16)
  replace Sq := Lib.hid (Sq.out.bt h16)
  replace Sx := Lib.hid (Sx.out.bt h16)
  replace Sy := Lib.hid (Sy.out.bt h16)
  clear h16
  go_wp2_with fail
  refine (X2.out w16 hb16).mono ?_
  rintro e w17 ⟨rfl, h17⟩
  have hb17 := Bt hb16 h17
  replace Sp := Lib.hid (Sp.out.bt h17)
  replace Sq := Lib.hid (Sq.out.bt h17)
  replace Sx := Lib.hid (Sx.out.bt h17)
  replace Sy := Lib.hid (Sy.out.bt h17)
  clear h17
  go_wp2_with fail
  refine (R1.out w17 hb17).mono ?_
  rintro e w18 ⟨rfl, h18⟩
  have hb18 := Bt hb17 h18
  replace Sp := Lib.hid (Sp.out.bt h18)
  replace Sq := Lib.hid (Sq.out.bt h18)
  replace Sx := Lib.hid (Sx.out.bt h18)
  replace Sy := Lib.hid (Sy.out.bt h18)
  clear h18
  go_wp2_with fail
  refine (X3.out w18 hb18).mono ?_
  rintro e w19 ⟨rfl, h19⟩
  have hb19 := Bt hb18 h19
  replace Sp := Lib.hid (Sp.out.bt h19)
  replace Sq := Lib.hid (Sq.out.bt h19)
  replace Sx := Lib.hid (Sx.out.bt h19)
  replace Sy := Lib.hid (Sy.out.bt h19)
  clear h19
  go_wp2_with fail
  refine (R2.out w19 hb19).mono ?_
  rintro e w20 ⟨rfl, h20⟩
  have hb20 := Bt hb19 h20
  replace Sp := Lib.hid (Sp.out.bt h20)
  replace Sq := Lib.hid (Sq.out.bt h20)
  replace Sx := Lib.hid (Sx.out.bt h20)
  replace Sy := Lib.hid (Sy.out.bt h20)
  clear h20
  go_wp2_with fail
  refine (X4.out w20 hb20).mono ?_
  rintro e w21 ⟨rfl, h21⟩
  have hb21 := Bt hb20 h21
  replace Sp := Lib.hid (Sp.out.bt h21)
  replace Sq := Lib.hid (Sq.out.bt h21)
  replace Sx := Lib.hid (Sx.out.bt h21)
  replace Sy := Lib.hid (Sy.out.bt h21)
  clear h21
  go_wp2_with fail
  go_ret
  exact ⟨by simp, hb21⟩

theorem matches_walk (A : Option Addr) (c : Nat) (ss : List ByteArray) (i m n : Int) (rt old s : ByteArray) (A' : Option Addr) (c' : Nat) (p : List ByteArray) (W : World) (hp : Pow W.heap.size W) (hs : Strs W W.heap.size A ss) (hc : ss.length ≤ c) (hm : c ≤ maxLen) (_ : (Go.Lit.int .i64 i).wf = true) (_ : (Go.Lit.int .i64 m).wf = true) (_ : (Go.Lit.int .i64 n).wf = true) (_ : rt.size ≤ maxLen) (_ : old.size ≤ maxLen) (_ : s.size ≤ maxLen) (ht : Strs W W.heap.size A' p) (hc' : p.length ≤ c') (hm' : c' ≤ maxLen) :
    Calls Tryd.prog 3 #[.slice A ss.length c, .int .i64 i, .int .i64 m, .int .i64 n, .string rt, .string old, .string s, .slice A' p.length c'] W fun e w' => e = .returned (.bool true) ∧ Below W.heap.size W w' := by
  by_cases h : few20 ss = false ∨ few20 p = false ∨ 100 < rt.size ∨ 100 < old.size ∨ 100 < s.size
  · exact matches_out A c ss i m n rt old s A' c' p W hp hs hc hm ht hc' hm' h
  · have h1 : few20 ss = true := by
      cases e : few20 ss with
      | true => rfl
      | false => exact absurd (.inl e) h
    have h2 : few20 p = true := by
      cases e : few20 p with
      | true => rfl
      | false => exact absurd (.inr (.inl e)) h
    exact matches_in A c ss i m n rt old s A' c' p W hp hs hc hm ht hc' hm' h1 h2 (by omega) (by omega) (by omega)
end Go.Proofs.YtkakbookioimhaaDoor
