/- The examples that every law of layer 2 begins with. -/
import Derived.Test.YtkakbookioimhaaDoorTrK
import Derived.WalkKit
import Derived.Below
import Derived.Outline
import Derived.Lib.Hide
namespace Go.Proofs.YtkakbookioimhaaDoor
open Go.RowKit

theorem lit1 (x : ByteArray) (h : x.size ≤ 1000000000) : Lit [x] := ⟨fun s hs => by simp at hs; subst hs; exact h, by simp⟩
theorem lit2 (x y : ByteArray) (h : x.size ≤ 1000000000) (h' : y.size ≤ 1000000000) : Lit [x, y] := ⟨fun s hs => by simp at hs; rcases hs with rfl | rfl; exact h; exact h', by simp⟩
theorem lit3 (x y z : ByteArray) (h : x.size ≤ 1000000000) (h' : y.size ≤ 1000000000) (h'' : z.size ≤ 1000000000) : Lit [x, y, z] := ⟨fun s hs => by simp at hs; rcases hs with rfl | rfl | rfl; exact h; exact h'; exact h'', by simp⟩
theorem bs (l : List UInt8) (h : l.length ≤ 100) : (⟨l.toArray⟩ : ByteArray).size ≤ 1000000000 := by rw [bsize]; omega
theorem leaf_le (x : ByteArray) : (Tr.leaf x).size ≤ 1000000000 := by rw [leaf_size]; omega
theorem node_le (x y : ByteArray) : (Tr.node x y).size ≤ 1000000000 := by rw [node_size]; omega
theorem exL_small : ∀ s ∈ exL, s.size ≤ 1000000000 := by
  intro s hs
  simp [exL] at hs
  rcases hs with rfl | rfl | rfl <;> simp [ByteArray.size]

theorem path_ex (A : Option Addr) (i : Nat) (w : World) (l : List ByteArray) (hl : Tr.path exL i = l) (hi : i < 3) (hs : Strs w w.heap.size A exL) (hp : Pow w.heap.size w) :
    Calls Tryd.prog 11 #[.slice A 3 3, .int .i64 (i : Int)] w fun e w' => ∃ A' c', e = .returned (.tuple #[.slice A' l.length c', .int .i64 0]) ∧ Strs w' w'.heap.size A' l ∧ l.length ≤ c' ∧ c' ≤ maxLen ∧ Below w.heap.size w w' := by
  subst hl
  refine (Path_ok A 3 exL i w hi (by decide) (by unfold maxLen; omega) (by decide) hs exL_small hp).mono ?_
  rintro e w' ⟨v, rfl, ho, hb⟩
  obtain ⟨A', c', rfl, h1, h2, h3⟩ := ho.form
  exact ⟨A', c', rfl, h1, h2, h3, hb⟩

theorem link_ex (A : Option Addr) (m : Nat) (w : World) (l : List ByteArray) (hl : Tr.Link exL m = l) (hi : m ≤ 3) (hs : Strs w w.heap.size A exL) (hp : Pow w.heap.size w) :
    Calls Tryd.prog 13 #[.slice A 3 3, .int .i64 (m : Int)] w fun e w' => ∃ A' c', e = .returned (.tuple #[.slice A' l.length c', .int .i64 0]) ∧ Strs w' w'.heap.size A' l ∧ l.length ≤ c' ∧ c' ≤ maxLen ∧ Below w.heap.size w w' := by
  subst hl
  refine (Link_ok A 3 exL m w hi (by decide) (by unfold maxLen; omega) (by decide) hs exL_small hp).mono ?_
  rintro e w' ⟨v, rfl, ho, hb⟩
  obtain ⟨A', c', rfl, h1, h2, h3⟩ := ho.form
  exact ⟨A', c', rfl, h1, h2, h3, hb⟩

theorem path_ex_err (A : Option Addr) (w : World) :
    Calls Tryd.prog 11 #[.slice A 3 3, .int .i64 3] w fun e w' => ∃ v, e = .returned (.tuple #[v, .int .i64 1]) ∧ Below w.heap.size w w' :=
  (Path_err A 3 3 3 w (.inr (Int.le_refl 3))).mono fun _ _ ⟨v, he, _, hb⟩ => ⟨v, he, hb⟩

theorem root_ex (A : Option Addr) (w : World) (hs : Strs w w.heap.size A exL) (hp : Pow w.heap.size w) :
    Calls Tryd.prog 15 #[.slice A 3 3] w fun e w' => e = .returned (.string (Tr.root exL)) ∧ Below w.heap.size w w' :=
  root_any A 3 exL w (by decide) (by unfold maxLen; omega) hs exL_small hp

theorem root_none (w : World) (hp : Pow w.heap.size w) :
    Calls Tryd.prog 15 #[.slice none 0 0] w fun e w' => e = .returned (.string Tr.empty) ∧ Below w.heap.size w w' := by
  have := root_any none 0 [] w (by simp) (by unfold maxLen; omega) (fun k hk => absurd hk (by simp)) (by simp) hp
  rwa [Tr.root_nil] at this

theorem check_ex (rt lf : ByteArray) (n i : Int) (A : Option Addr) (c k : Nat) (p : List ByteArray) (hk : p.length = k) (b : Bool) (hb : Tr.check rt n i lf p = b) (w : World) (hlf : lf.size ≤ 1000000000) (hs : Strs w w.heap.size A p) (hz : ∀ s ∈ p, s.size ≤ 1000000000) (hc : k ≤ c) (hm : c ≤ maxLen) (hp : Pow w.heap.size w) :
    Calls Tryd.prog 18 #[.string rt, .int .i64 n, .int .i64 i, .string lf, .slice A k c] w fun e w' => e = .returned (.bool b) ∧ Below w.heap.size w w' := by
  subst hk hb
  exact Check_any rt n i lf A c p w hlf hs hz hc hm hp

theorem extends_ex (old rt : ByteArray) (m n : Int) (A : Option Addr) (c k : Nat) (p : List ByteArray) (hk : p.length = k) (b : Bool) (hb : Tr.extends' old m rt n p = b) (w : World) (hs : Strs w w.heap.size A p) (hz : ∀ s ∈ p, s.size ≤ 1000000000) (hc : k ≤ c) (hm : c ≤ maxLen) (hp : Pow w.heap.size w) :
    Calls Tryd.prog 20 #[.string old, .int .i64 m, .string rt, .int .i64 n, .slice A k c] w fun e w' => e = .returned (.bool b) ∧ Below w.heap.size w w' := by
  subst hk hb
  exact Extends_any old m rt n A c p w hs hz hc hm hp

set_option maxRecDepth 100000 in
set_option maxHeartbeats 2000000 in
theorem head_any (W : World) (hp : Pow W.heap.size W) :
    Calls Tryd.prog 9 #[] W fun e w' => e = .returned (.bool true) ∧ Below W.heap.size W w' := by
  have hW := Below.refl W.heap.size W
  go_enter Tryd.func9, Tryd.ntmps9
  go_wp2_with fail
  refine (root_lit W [⟨#[97]⟩] (Tr.leaf ⟨#[97]⟩) (Tr.root_one _) (lit1 _ (bs [_] (by decide))) hp).mono ?_
  rintro e w1 ⟨rfl, hb1⟩
  replace hW := Bt hW hb1
  replace hp := hp.bt hb1
  clear hb1
  go_wp2_with fail
  refine (root_lit w1 [⟨#[98]⟩] (Tr.leaf ⟨#[98]⟩) (Tr.root_one _) (lit1 _ (bs [_] (by decide))) hp).mono ?_
  rintro e w2 ⟨rfl, hb2⟩
  replace hW := Bt hW hb2
  replace hp := hp.bt hb2
  clear hb2
  go_wp2_with fail
  refine (root_lit w2 [⟨#[99]⟩] (Tr.leaf ⟨#[99]⟩) (Tr.root_one _) (lit1 _ (bs [_] (by decide))) hp).mono ?_
  rintro e w3 ⟨rfl, hb3⟩
  replace hW := Bt hW hb3
  replace hp := hp.bt hb3
  clear hb3
  go_wp2_with fail
  have hal : Below w3.heap.size w3 (w3.alloc (.cells #[.string ⟨#[97]⟩, .string ⟨#[98]⟩, .string ⟨#[99]⟩] 9)) := (Below.refl _ _).alloc (Nat.le_refl _) _
  have sl : Strs (w3.alloc (.cells #[.string ⟨#[97]⟩, .string ⟨#[98]⟩, .string ⟨#[99]⟩] 9)) (w3.alloc (.cells #[.string ⟨#[97]⟩, .string ⟨#[98]⟩, .string ⟨#[99]⟩] 9)).heap.size (some ⟨w3.heap.size, 0, none⟩) exL := strs_new w3 exL 9
  replace hW := Bt hW hal
  replace hp := hp.bt hal
  clear hal
  generalize hwl : w3.alloc (.cells #[.string ⟨#[97]⟩, .string ⟨#[98]⟩, .string ⟨#[99]⟩] 9) = wl at *
  clear hwl
  refine (path_ex _ 2 wl _ path_exL2 (by decide) sl hp).mono ?_
  rintro e w4 ⟨Ap, cp, rfl, sp, c1p, c2p, hb4⟩
  replace sl := sl.bt hb4
  replace hW := Bt hW hb4
  replace hp := hp.bt hb4
  clear hb4
  go_wp2_with fail
  refine (path_ex _ 0 w4 _ path_exL0 (by decide) sl hp).mono ?_
  rintro e w5 ⟨Aq, cq, rfl, sq, c1q, c2q, hb5⟩
  replace sl := sl.bt hb5
  replace sp := sp.bt hb5
  replace hW := Bt hW hb5
  replace hp := hp.bt hb5
  clear hb5
  go_wp2_with fail
  refine (link_ex _ 2 w5 _ link_exL2 (by decide) sl hp).mono ?_
  rintro e w6 ⟨Am, cm, rfl, sm, c1m, c2m, hb6⟩
  replace sl := sl.bt hb6
  replace sp := sp.bt hb6
  replace sq := sq.bt hb6
  replace hW := Bt hW hb6
  replace hp := hp.bt hb6
  clear hb6
  go_wp2_with fail
  refine (link_ex _ 1 w6 _ link_exL1 (by decide) sl hp).mono ?_
  rintro e w7 ⟨An, cn, rfl, sn, c1n, c2n, hb7⟩
  replace sl := sl.bt hb7
  replace sp := sp.bt hb7
  replace sq := sq.bt hb7
  replace sm := sm.bt hb7
  replace hW := Bt hW hb7
  replace hp := hp.bt hb7
  clear hb7
  go_wp2_with fail
  refine (path_ex_err _ w7).mono ?_
  rintro e w8 ⟨ve, rfl, hb8⟩
  replace sl := sl.bt hb8
  replace sp := sp.bt hb8
  replace sq := sq.bt hb8
  replace sm := sm.bt hb8
  replace sn := sn.bt hb8
  replace hW := Bt hW hb8
  replace hp := hp.bt hb8
  clear hb8
  go_wp2_with fail
  refine (list_lit w8 [⟨#[110, 111, 100, 101]⟩, (Tr.leaf ⟨#[97]⟩), (Tr.leaf ⟨#[98]⟩)] (Tr.node (Tr.leaf ⟨#[97]⟩) (Tr.leaf ⟨#[98]⟩)) rfl (lit3 _ _ _ (bs [_, _, _, _] (by decide)) (leaf_le _) (leaf_le _)) hp).mono ?_
  rintro e w9 ⟨rfl, hb9⟩
  replace sl := sl.bt hb9
  replace sp := sp.bt hb9
  replace sq := sq.bt hb9
  replace sm := sm.bt hb9
  replace sn := sn.bt hb9
  replace hW := Bt hW hb9
  replace hp := hp.bt hb9
  clear hb9
  go_wp2_with fail
  refine (root_none w9 hp).mono ?_
  rintro e w10 ⟨rfl, hb10⟩
  replace sl := sl.bt hb10
  replace sp := sp.bt hb10
  replace sq := sq.bt hb10
  replace sm := sm.bt hb10
  replace sn := sn.bt hb10
  replace hW := Bt hW hb10
  replace hp := hp.bt hb10
  clear hb10
  go_wp2_with fail
  refine (list_lit w10 [⟨#[101, 109, 112, 116, 121]⟩] Tr.empty rfl (lit1 _ (bs [_, _, _, _, _] (by decide))) hp).mono ?_
  rintro e w11 ⟨rfl, hb11⟩
  replace sl := sl.bt hb11
  replace sp := sp.bt hb11
  replace sq := sq.bt hb11
  replace sm := sm.bt hb11
  replace sn := sn.bt hb11
  replace hW := Bt hW hb11
  replace hp := hp.bt hb11
  clear hb11
  go_wp2_with fail
  refine (list_lit w11 [⟨#[108, 101, 97, 102]⟩, ⟨#[97]⟩] (Tr.leaf ⟨#[97]⟩) rfl (lit2 _ _ (bs [_, _, _, _] (by decide)) (bs [_] (by decide))) hp).mono ?_
  rintro e w12 ⟨rfl, hb12⟩
  replace sl := sl.bt hb12
  replace sp := sp.bt hb12
  replace sq := sq.bt hb12
  replace sm := sm.bt hb12
  replace sn := sn.bt hb12
  replace hW := Bt hW hb12
  replace hp := hp.bt hb12
  clear hb12
  go_wp2_with fail
  refine (root_ex _ w12 sl hp).mono ?_
  rintro e w13 ⟨rfl, hb13⟩
  replace sl := sl.bt hb13
  replace sp := sp.bt hb13
  replace sq := sq.bt hb13
  replace sm := sm.bt hb13
  replace sn := sn.bt hb13
  replace hW := Bt hW hb13
  replace hp := hp.bt hb13
  clear hb13
  go_wp2_with fail
  refine (list_lit w13 [⟨#[110, 111, 100, 101]⟩, (Tr.node (Tr.leaf ⟨#[97]⟩) (Tr.leaf ⟨#[98]⟩)), (Tr.leaf ⟨#[99]⟩)] (Tr.root exL) (by rw [root_exL]; rfl) (lit3 _ _ _ (bs [_, _, _, _] (by decide)) (node_le _ _) (leaf_le _)) hp).mono ?_
  rintro e w14 ⟨rfl, hb14⟩
  replace sl := sl.bt hb14
  replace sp := sp.bt hb14
  replace sq := sq.bt hb14
  replace sm := sm.bt hb14
  replace sn := sn.bt hb14
  replace hW := Bt hW hb14
  replace hp := hp.bt hb14
  clear hb14
  go_wp2_with fail
  refine (same_lit w14 [(Tr.node (Tr.leaf ⟨#[97]⟩) (Tr.leaf ⟨#[98]⟩))] Ap cp sp (lit1 _ (node_le _ _))).mono ?_
  rintro e w15 ⟨rfl, hb15⟩
  replace sl := sl.bt hb15
  replace sp := sp.bt hb15
  replace sq := sq.bt hb15
  replace sm := sm.bt hb15
  replace sn := sn.bt hb15
  replace hW := Bt hW hb15
  replace hp := hp.bt hb15
  clear hb15
  go_wp2_with fail
  refine (same_lit w15 [(Tr.leaf ⟨#[98]⟩), (Tr.leaf ⟨#[99]⟩)] Aq cq sq (lit2 _ _ (leaf_le _) (leaf_le _))).mono ?_
  rintro e w16 ⟨rfl, hb16⟩
  replace sl := sl.bt hb16
  replace sp := sp.bt hb16
  replace sq := sq.bt hb16
  replace sm := sm.bt hb16
  replace sn := sn.bt hb16
  replace hW := Bt hW hb16
  replace hp := hp.bt hb16
  clear hb16
  go_wp2_with fail
  refine (same_lit w16 [(Tr.leaf ⟨#[99]⟩)] Am cm sm (lit1 _ (leaf_le _))).mono ?_
  rintro e w17 ⟨rfl, hb17⟩
  replace sl := sl.bt hb17
  replace sp := sp.bt hb17
  replace sq := sq.bt hb17
  replace sm := sm.bt hb17
  replace sn := sn.bt hb17
  replace hW := Bt hW hb17
  replace hp := hp.bt hb17
  clear hb17
  go_wp2_with fail
  refine (same_lit w17 [(Tr.leaf ⟨#[98]⟩), (Tr.leaf ⟨#[99]⟩)] An cn sn (lit2 _ _ (leaf_le _) (leaf_le _))).mono ?_
  rintro e w18 ⟨rfl, hb18⟩
  replace sl := sl.bt hb18
  replace sp := sp.bt hb18
  replace sq := sq.bt hb18
  replace sm := sm.bt hb18
  replace sn := sn.bt hb18
  replace hW := Bt hW hb18
  replace hp := hp.bt hb18
  clear hb18
  go_wp2_with fail
  refine (root_ex _ w18 sl hp).mono ?_
  rintro e w19 ⟨rfl, hb19⟩
  replace sl := sl.bt hb19
  replace sp := sp.bt hb19
  replace sq := sq.bt hb19
  replace sm := sm.bt hb19
  replace sn := sn.bt hb19
  replace hW := Bt hW hb19
  replace hp := hp.bt hb19
  clear hb19
  go_wp2_with fail
  refine (check_ex _ _ 3 2 Ap cp 1 [(Tr.node (Tr.leaf ⟨#[97]⟩) (Tr.leaf ⟨#[98]⟩))] rfl true (by rw [← path_exL2]; exact check_exL_yes) w19 (bs [_] (by decide)) sp (lit1 _ (node_le _ _)).1 c1p c2p hp).mono ?_
  rintro e w20 ⟨rfl, hb20⟩
  replace sl := sl.bt hb20
  replace sp := sp.bt hb20
  replace sq := sq.bt hb20
  replace sm := sm.bt hb20
  replace sn := sn.bt hb20
  replace hW := Bt hW hb20
  replace hp := hp.bt hb20
  clear hb20
  go_wp2_with fail
  refine (root_ex _ w20 sl hp).mono ?_
  rintro e w21 ⟨rfl, hb21⟩
  replace sl := sl.bt hb21
  replace sp := sp.bt hb21
  replace sq := sq.bt hb21
  replace sm := sm.bt hb21
  replace sn := sn.bt hb21
  replace hW := Bt hW hb21
  replace hp := hp.bt hb21
  clear hb21
  go_wp2_with fail
  refine (check_ex _ _ 3 2 Ap cp 1 [(Tr.node (Tr.leaf ⟨#[97]⟩) (Tr.leaf ⟨#[98]⟩))] rfl false (by rw [← path_exL2]; exact check_exL_no) w21 (bs [_] (by decide)) sp (lit1 _ (node_le _ _)).1 c1p c2p hp).mono ?_
  rintro e w22 ⟨rfl, hb22⟩
  replace sl := sl.bt hb22
  replace sp := sp.bt hb22
  replace sq := sq.bt hb22
  replace sm := sm.bt hb22
  replace sn := sn.bt hb22
  replace hW := Bt hW hb22
  replace hp := hp.bt hb22
  clear hb22
  go_wp2_with fail
  refine (root_ex _ w22 sl hp).mono ?_
  rintro e w23 ⟨rfl, hb23⟩
  replace sl := sl.bt hb23
  replace sp := sp.bt hb23
  replace sq := sq.bt hb23
  replace sm := sm.bt hb23
  replace sn := sn.bt hb23
  replace hW := Bt hW hb23
  replace hp := hp.bt hb23
  clear hb23
  go_wp2_with fail
  refine (extends_ex _ _ 1 3 An cn 2 [(Tr.leaf ⟨#[98]⟩), (Tr.leaf ⟨#[99]⟩)] rfl true (by rw [← link_exL1]; exact extends_exL_yes) w23 sn (lit2 _ _ (leaf_le _) (leaf_le _)).1 c1n c2n hp).mono ?_
  rintro e w24 ⟨rfl, hb24⟩
  replace sl := sl.bt hb24
  replace sp := sp.bt hb24
  replace sq := sq.bt hb24
  replace sm := sm.bt hb24
  replace sn := sn.bt hb24
  replace hW := Bt hW hb24
  replace hp := hp.bt hb24
  clear hb24
  go_wp2_with fail
  refine (root_ex _ w24 sl hp).mono ?_
  rintro e w25 ⟨rfl, hb25⟩
  replace sl := sl.bt hb25
  replace sp := sp.bt hb25
  replace sq := sq.bt hb25
  replace sm := sm.bt hb25
  replace sn := sn.bt hb25
  replace hW := Bt hW hb25
  replace hp := hp.bt hb25
  clear hb25
  go_wp2_with fail
  refine (extends_ex _ _ 1 3 An cn 2 [(Tr.leaf ⟨#[98]⟩), (Tr.leaf ⟨#[99]⟩)] rfl false (by rw [← link_exL1]; exact extends_exL_no) w25 sn (lit2 _ _ (leaf_le _) (leaf_le _)).1 c1n c2n hp).mono ?_
  rintro e w26 ⟨rfl, hb26⟩
  replace sl := sl.bt hb26
  replace sp := sp.bt hb26
  replace sq := sq.bt hb26
  replace sm := sm.bt hb26
  replace sn := sn.bt hb26
  replace hW := Bt hW hb26
  replace hp := hp.bt hb26
  clear hb26
  go_wp2
  go_ret
  exact ⟨rfl, hW⟩
end Go.Proofs.YtkakbookioimhaaDoor
