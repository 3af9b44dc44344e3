/- The program's Public, Sign and Verify (layer 3). The program's Verify (layer 3). What Verify says of one's own seals; the forms in which the walks of the laws use the contracts (layer 3). -/
import Derived.Test.YtdlmbpoihnifiaaDoorSeT
import Derived.Test.YtdlmbpoihnifiaaDoorTrB
import Derived.Test.YtdlmbpoihnifiaaDoorTrC
import Derived.Test.YtdlmbpoihnifiaaDoorTrF
import Derived.WalkKit
import Derived.Below
import Derived.Outline
import Derived.Lib.Hide
import Derived.Deep.RegionHeld3
import Derived.Deep.DrawnRows
namespace Go.Proofs.YtdlmbpoihnifiaaDoor
open Go.RowKit
set_option maxRecDepth 100000
set_option linter.unusedSimpArgs false
set_option linter.unusedVariables false

def pub (s : ByteArray) (h : Nat) : ByteArray := Tr.root (Se.keys s h)

theorem keys_small (s : ByteArray) (h : Nat) : ∀ x ∈ Se.keys s h, x.size ≤ 1000000000 := by
  intro x hx
  obtain ⟨i, _, rfl⟩ := List.mem_map.1 hx
  rw [Se.key, Tr.dg_size]
  omega

theorem Public_ok (s : ByteArray) (h : Nat) (w : World) (hs : s.size ≤ 1000000000) (hh : h ≤ 8) (hp : Pow w.heap.size w) :
    Calls Tryd.prog 13 #[.string s, .int .i64 (h : Int)] w fun e w' => e = .returned (.tuple #[.string (pub s h), .int .i64 0]) ∧ Below w.heap.size w w' := by
  have KS := Lib.hid (oneTimeKeys_any s h w hs (by omega) hp)
  have HI := Lib.hid (isHeight_yes h w hh)
  have RT := Lib.hid (fun (w' : World) (A : Option Addr) (c : Nat) (hb : Below w.heap.size w w') (hst : Strs w' w'.heap.size A (Se.keys s h)) (hc : (Se.keys s h).length ≤ c) (hm : c ≤ maxLen) =>
    root_any A c (Se.keys s h) w' hc hm hst (keys_small s h) (hp.bt hb))
  unfold pub
  generalize Tr.root (Se.keys s h) = rt at *
  go_enter Tryd.func13, Tryd.ntmps13
  go_wp2_with fail
  refine HI.out.mono ?_
  rintro e w1 ⟨rfl, rfl⟩
  go_wp2_with fail
  refine KS.out.mono ?_
  rintro e w1 ⟨v, rfl, hown, hb⟩
  obtain ⟨A, c, rfl, hst, hc, hm⟩ := hown.form
  have R1 := Lib.hid (RT.out w1 A c hb hst hc hm)
  clear hown hst
  generalize (Se.keys s h).length = n at *
  go_wp2_with fail
  refine R1.out.mono ?_
  rintro e w2 ⟨rfl, hb2⟩
  go_wp2
  go_ret2
  exact ⟨rfl, Bt hb hb2⟩

theorem Public_err (s : ByteArray) (h : Int) (w : World) (hh : h < 0 ∨ 8 < h) :
    Calls Tryd.prog 13 #[.string s, .int .i64 h] w fun e w' => e = .returned (.tuple #[.string ⟨#[]⟩, .int .i64 1]) ∧ w = w' := by
  have HI := Lib.hid (isHeight_no h w hh)
  clear hh
  go_enter Tryd.func13, Tryd.ntmps13
  go_wp2_with fail
  refine HI.out.mono ?_
  rintro e w1 ⟨rfl, rfl⟩
  go_wp2
  go_ret2
  exact ⟨rfl, rfl⟩

/-- A block that holds a seal. -/
def Boxed3 (w : World) (b : Nat) (x y z : Value) : Prop := w.heap[b]? = some (.cells #[x, y, z] 24 (0, 0))
theorem Boxed3.new (w : World) (x y z : Value) : Boxed3 (w.alloc (.cells #[x, y, z] 24)) w.heap.size x y z := World.alloc_heap_new w _
theorem Boxed3.lt {w : World} {b : Nat} {x y z : Value} (h : Boxed3 w b x y z) : b < w.heap.size := (Array.getElem?_eq_some_iff.1 h).1
theorem Boxed3.bt {w w' : World} {b : Nat} {x y z : Value} (h : Boxed3 w b x y z) (hb : Below w.heap.size w w') : Boxed3 w' b x y z := (hb.block b h.lt).trans h
theorem Boxed3.cells {w : World} {b : Nat} {x y z : Value} (h : Boxed3 w b x y z) : w.cell? ⟨b, 0, none⟩ = some x ∧ w.cell? ⟨b, 1, none⟩ = some y ∧ w.cell? ⟨b, 2, none⟩ = some z ∧ w.frozen? ⟨b, 0, none⟩ = false ∧ w.frozen? ⟨b, 1, none⟩ = false ∧ w.frozen? ⟨b, 2, none⟩ = false := by
  have h' : w.heap[b]? = some (.cells #[x, y, z] 24 (0, 0)) := h
  refine ⟨?_, ?_, ?_, ?_, ?_, ?_⟩ <;> simp [World.cell?, World.frozen?, h']

theorem Boxed3.set {w : World} {b : Nat} {x y z : Value} (x' y' z' : Value) (h : Boxed3 w b x y z) : Boxed3 (((w.setCell ⟨b, 0, none⟩ x').setCell ⟨b, 1, none⟩ y').setCell ⟨b, 2, none⟩ z') b x' y' z' := by
  have h1 := Go.heap_setCell_same w b 0 _ _ x' h
  have h2 := Go.heap_setCell_same _ b 1 _ _ y' h1
  have h3 := Go.heap_setCell_same _ b 2 _ _ z' h2
  exact h3
theorem below_set3 {B : Nat} {w w' : World} {b : Nat} {x' y' z' : Value} (h : Below B w w') (hb : B ≤ b) : Below B w (((w'.setCell ⟨b, 0, none⟩ x').setCell ⟨b, 1, none⟩ y').setCell ⟨b, 2, none⟩ z') :=
  ((h.setCell (p := ⟨b, 0, none⟩) hb _).setCell (p := ⟨b, 1, none⟩) hb _).setCell (p := ⟨b, 2, none⟩) hb _
theorem grownBy_setAt (W : World) (b o : Nat) (v : Value) : W.grownBy (W.setCell ⟨b, o, none⟩ v) (some b) :=
  ⟨rfl, rfl, rfl, (KeepsWalks.setCell W _ v).size, fun k _ hk => Below.heap_setCell _ _ _ k (fun e => hk (by rw [e]))⟩
theorem own_setAt {w : World} {B b o : Nat} {v u : Value} {l : List ByteArray} (h : OwnS w B v l) (hb : b < B) : OwnS (w.setCell ⟨b, o, none⟩ u) B v l := by
  have h' : w.ownsRow B 9 1 v l.length (l.map Value.string) := h
  exact h'.kept (grownBy_setAt w b o u) (.inr (row_other h' hb).symm)
theorem own_set3 {w : World} {B b : Nat} {v x' y' z' : Value} {l : List ByteArray} (h : OwnS w B v l) (hb : b < B) : OwnS (((w.setCell ⟨b, 0, none⟩ x').setCell ⟨b, 1, none⟩ y').setCell ⟨b, 2, none⟩ z') B v l :=
  own_setAt (own_setAt (own_setAt h hb) hb) hb

/-- What Sign returns: the index, the texts and the path, in lists of its own. -/
def GivesSeal (i : Int) (sg pt : List ByteArray) (err : Int) (w : World) (e : Ending) (w' : World) : Prop :=
  ∃ v1 v2, e = .returned (.tuple #[.agg #[.int .i64 i, v1, v2], .int .i64 err]) ∧ OwnS w' w.heap.size v1 sg ∧ OwnS w' w.heap.size v2 pt ∧ Below w.heap.size w w'

theorem Sign_err1 (s m : ByteArray) (h i : Int) (w : World) (hh : h < 0 ∨ 8 < h) :
    Calls Tryd.prog 15 #[.string s, .int .i64 h, .int .i64 i, .string m] w (GivesSeal 0 [] [] 1 w) := by
  have HI := Lib.hid (fun w => isHeight_no h w hh)
  clear hh
  go_enter Tryd.func15, Tryd.ntmps15
  go_wp2_with fail
  refine (HI.out _).mono ?_
  rintro e w1 ⟨rfl, rfl⟩
  go_wp2
  refine bodyPost_ret (v := .tuple #[.agg #[.int .i64 0, .slice none 0 0, .slice none 0 0], .int .i64 1]) ?_ rfl ?_
  · simp [results, Tryd.f15, go_sem]
  · exact ⟨_, _, rfl, OwnS.nil _ _, OwnS.nil _ _, (Below.refl _ _).alloc (Nat.le_refl _) _⟩

theorem Sign_err2 (s m : ByteArray) (h : Nat) (i : Int) (w : World) (hs : s.size ≤ 1000000000) (hh : h ≤ 8) (hi : i < 0 ∨ ((2 ^ h : Nat) : Int) ≤ i) (hp : Pow w.heap.size w) :
    Calls Tryd.prog 15 #[.string s, .int .i64 (h : Int), .int .i64 i, .string m] w (GivesSeal 0 [] [] 1 w) := by
  have HI := Lib.hid (fun w => isHeight_yes h w hh)
  have KS := Lib.hid (fun (w' : World) (hp' : Pow w'.heap.size w') => oneTimeKeys_any s h w' hs (by omega) hp')
  have hl := Se.keys_length s h
  rw [← hl] at hi
  clear hl
  have PE := Lib.hid (fun (w' : World) (A : Option Addr) (c : Nat) => Path_err A c (Se.keys s h).length i w' hi)
  clear hi
  have hbA := (Below.refl w.heap.size w).alloc (Nat.le_refl _) (.cells #[.int .i64 0, .slice none 0 0, .slice none 0 0] 24)
  have c0 := Boxed3.new w (.int .i64 0) (.slice none 0 0) (.slice none 0 0)
  go_enter Tryd.func15, Tryd.ntmps15
  go_wp2_with fail
  refine (HI.out _).mono ?_
  rintro e w1 ⟨rfl, rfl⟩
  go_wp2_with fail
  refine (KS.out _ (hp.bt hbA)).mono ?_
  rintro e w1 ⟨v, rfl, hown, hb⟩
  obtain ⟨A, c, rfl, _, _, _⟩ := hown.form
  generalize (Se.keys s h).length = n at *
  clear hown
  go_wp2_with fail
  refine (PE.out w1 A c).mono ?_
  rintro e w2 ⟨v2, rfl, ho2, hb2⟩
  obtain ⟨A2, c2, rfl, _, _, _⟩ := ho2.form
  have hb12 := Bt hb hb2
  have hbx := c0.bt hb12
  obtain ⟨k0, k1, k2, f0, f1, f2⟩ := hbx.cells
  go_wp2
  obtain ⟨r0, r1, r2, _, _, _⟩ := (hbx.set (.int .i64 0) (.slice none 0 0) (.slice none 0 0)).cells
  refine bodyPost_ret (v := .tuple #[.agg #[.int .i64 0, .slice none 0 0, .slice none 0 0], .int .i64 1]) ?_ rfl ?_
  · simp [results, Tryd.f15, go_sem, r0, r1, r2]
  · exact ⟨_, _, rfl, OwnS.nil _ _, OwnS.nil _ _, below_set3 (Bt hbA hb12) (Nat.le_refl _)⟩

set_option maxHeartbeats 1000000 in
theorem Sign_ok (s m : ByteArray) (h i : Nat) (w : World) (hs : s.size ≤ 1000000000) (hm : m.size ≤ maxLen) (hh : h ≤ 8) (hi : i < 2 ^ h) (hp : Pow w.heap.size w) :
    Calls Tryd.prog 15 #[.string s, .int .i64 (h : Int), .int .i64 (i : Int), .string m] w (GivesSeal i (Se.sig s i m) (Tr.path (Se.keys s h) i) 0 w) := by
  have HI := Lib.hid (fun w => isHeight_yes h w hh)
  have KS := Lib.hid (fun (w' : World) (hp' : Pow w'.heap.size w') => oneTimeKeys_any s h w' hs (by omega) hp')
  have hl := Se.keys_length s h
  have h8 : 2 ^ h ≤ 256 := Nat.pow_le_pow_right (n := 2) (by omega) hh
  have PO := Lib.hid (fun (w' : World) (A : Option Addr) (c : Nat) (hc : (Se.keys s h).length ≤ c) (hcm : c ≤ maxLen) (hst : Strs w' w'.heap.size A (Se.keys s h)) (hp' : Pow w'.heap.size w') =>
    Path_ok A c (Se.keys s h) i w' (by omega) hc hcm (by omega) hst (keys_small s h) hp')
  have SG := Lib.hid (fun (w' : World) (hp' : Pow w'.heap.size w') => signature_any s m i w' hs (by omega) hm hp')
  clear hl hi h8
  have hbA := (Below.refl w.heap.size w).alloc (Nat.le_refl _) (.cells #[.int .i64 0, .slice none 0 0, .slice none 0 0] 24)
  have c0 := Boxed3.new w (.int .i64 0) (.slice none 0 0) (.slice none 0 0)
  generalize Tr.path (Se.keys s h) i = pl at *
  generalize Se.sig s i m = sl at *
  go_enter Tryd.func15, Tryd.ntmps15
  go_wp2_with fail
  refine (HI.out _).mono ?_
  rintro e w1 ⟨rfl, rfl⟩
  go_wp2_with fail
  refine (KS.out _ (hp.bt hbA)).mono ?_
  rintro e w1 ⟨v, rfl, hown, hb⟩
  obtain ⟨A, c, rfl, hst, hc, hcm⟩ := hown.form
  have P1 := Lib.hid (PO.out w1 A c hc hcm hst (hp.bt (Bt hbA hb)))
  clear hown hst PO
  generalize (Se.keys s h).length = n at *
  go_wp2_with fail
  refine P1.out.mono ?_
  rintro e w2 ⟨v2, rfl, ho2, hb2⟩
  have hb12 := Bt hb hb2
  have O2 := Lib.hid ho2
  clear ho2
  go_wp2_with fail
  refine (SG.out w2 (hp.bt (Bt hbA hb12))).mono ?_
  rintro e w3 ⟨v3, rfl, ho3, hb3⟩
  have hb13 := Bt hb12 hb3
  have hbx := c0.bt hb13
  have hlt : w.heap.size < w1.heap.size := by
    have := hb.size
    simp at this
    omega
  have hlt2 : w.heap.size < w2.heap.size := Nat.lt_of_lt_of_le hlt hb2.size
  have O3 := Lib.hid ho3
  clear ho3
  obtain ⟨A2, c2, hv2, _, _, _⟩ := O2.out.form
  obtain ⟨A3, c3, hv3, _, _, _⟩ := O3.out.form
  subst hv2 hv3
  obtain ⟨k0, k1, k2, f0, f1, f2⟩ := hbx.cells
  generalize sl.length = n3 at *
  generalize pl.length = n2 at *
  go_wp2
  obtain ⟨r0, r1, r2, _, _, _⟩ := (hbx.set (.int .i64 (i : Int)) (.slice A3 n3 c3) (.slice A2 n2 c2)).cells
  refine bodyPost_ret (v := .tuple #[.agg #[.int .i64 (i : Int), .slice A3 n3 c3, .slice A2 n2 c2], .int .i64 0]) ?_ rfl ?_
  · simp [results, Tryd.f15, go_sem, r0, r1, r2]
  · exact ⟨_, _, rfl, (own_set3 O3.out hlt2).mono (Nat.le_of_lt hlt2), (own_set3 (own_below O2.out hb3) hlt).mono (Nat.le_of_lt hlt), below_set3 (Bt hbA hb13) (Nat.le_refl _)⟩
end Go.Proofs.YtdlmbpoihnifiaaDoor

namespace Go.Proofs.YtdlmbpoihnifiaaDoor
open Go.RowKit
set_option maxRecDepth 100000
set_option linter.unusedSimpArgs false
set_option linter.unusedVariables false

/-- What Verify computes. -/
def vf (rt m : ByteArray) (i : Int) (sg pt : List ByteArray) : Bool :=
  decide (sg.length = 18) && (decide (pt.length ≤ 8) && (Tr.digs sg && Tr.check rt ((2 ^ pt.length : Nat) : Int) i (Tr.dg (Se.ends m sg)) pt))

theorem vf_len {rt m : ByteArray} {i : Int} {sg pt : List ByteArray} (h : sg.length ≠ 18) : vf rt m i sg pt = false := by unfold vf; rw [decide_eq_false h]; rfl
theorem vf_path {rt m : ByteArray} {i : Int} {sg pt : List ByteArray} (h : 8 < pt.length) : vf rt m i sg pt = false := by unfold vf; rw [decide_eq_false (show ¬ pt.length ≤ 8 by omega)]; simp
theorem vf_digs {rt m : ByteArray} {i : Int} {sg pt : List ByteArray} (h : Tr.digs sg = false) : vf rt m i sg pt = false := by unfold vf; rw [h]; simp
theorem vf_in {rt m : ByteArray} {i : Int} {sg pt : List ByteArray} (h : sg.length = 18) (h' : pt.length ≤ 8) (hd : Tr.digs sg = true) : vf rt m i sg pt = Tr.check rt ((2 ^ pt.length : Nat) : Int) i (Tr.dg (Se.ends m sg)) pt := by
  unfold vf
  rw [decide_eq_true h, decide_eq_true h', hd]
  rfl

theorem isHeight_val (h : Int) (b : Bool) (hb : decide (0 ≤ h ∧ h ≤ 8) = b) (w : World) :
    Calls Tryd.prog 26 #[.int .i64 h] w fun e w' => e = .returned (.bool b) ∧ w = w' := by
  subst hb
  exact isHeight_any h w

theorem digs_small {ss : List ByteArray} (h : Tr.digs ss = true) : ∀ s ∈ ss, s.size = 16 := by
  intro s hs
  have := List.all_eq_true.1 h s hs
  unfold Dg.isDigest at this
  simp only [Bool.and_eq_true, beq_iff_eq] at this
  have h1 := this.1
  simpa using h1

theorem wrap_pow' (h : Nat) (hh : h ≤ 30) : IntKind.i64.wrap ((2 : Int) ^ h) = ((2 ^ h : Nat) : Int) := by
  have h1 : 2 ^ h ≤ 1073741824 := Nat.pow_le_pow_right (n := 2) (by omega) hh
  have e : ((2 : Int) ^ h) = ((2 ^ h : Nat) : Int) := by norm_cast
  rw [e, IntKind.wrap_i64]
  generalize 2 ^ h = n at *
  omega

set_option maxHeartbeats 1000000 in
theorem Verify_len (rt m : ByteArray) (i : Int) (A1 A2 : Option Addr) (n1 n2 c1 c2 : Nat) (w : World) (h : n1 ≠ 18) (hn : n1 ≤ maxLen) :
    Calls Tryd.prog 18 #[.string rt, .string m, .agg #[.int .i64 i, .slice A1 n1 c1, .slice A2 n2 c2]] w fun e w' => e = .returned (.bool false) ∧ Below w.heap.size w w' := by
  have k1 : ((n1 : Int) == 18) = false := by rw [beq_eq_false_iff_ne]; omega
  have k2 : (n1 : Int) ≠ 18 := by omega
  unfold maxLen at hn
  go_enter Tryd.func18, Tryd.ntmps18
  go_wp2_with fail
  go_ret
  exact ⟨rfl, (Below.refl _ _).alloc (Nat.le_refl _) _⟩

set_option maxHeartbeats 1000000 in
theorem Verify_path (rt m : ByteArray) (i : Int) (A1 A2 : Option Addr) (n2 c1 c2 : Nat) (w : World) (h : 8 < n2) (hn : n2 ≤ maxLen) :
    Calls Tryd.prog 18 #[.string rt, .string m, .agg #[.int .i64 i, .slice A1 18 c1, .slice A2 n2 c2]] w fun e w' => e = .returned (.bool false) ∧ Below w.heap.size w w' := by
  have HI := Lib.hid (fun w => isHeight_no (n2 : Int) w (by omega))
  unfold maxLen at hn
  go_enter Tryd.func18, Tryd.ntmps18
  go_wp2_with (go_at_call 26; refine (HI.out _).mono ?_; rintro e w1 ⟨rfl, rfl⟩)
  go_ret
  exact ⟨rfl, (Below.refl _ _).alloc (Nat.le_refl _) _⟩

set_option maxHeartbeats 1000000 in
theorem Verify_digs (rt m : ByteArray) (i : Int) (A1 A2 : Option Addr) (n2 c1 c2 : Nat) (sg : List ByteArray) (w : World) (hl : sg.length = 18) (hs : Strs w w.heap.size A1 sg) (h : n2 ≤ 8) (hd : Tr.digs sg = false) :
    Calls Tryd.prog 18 #[.string rt, .string m, .agg #[.int .i64 i, .slice A1 18 c1, .slice A2 n2 c2]] w fun e w' => e = .returned (.bool false) ∧ Below w.heap.size w w' := by
  have HI := Lib.hid (fun w => isHeight_yes n2 w (by omega))
  have HC := Lib.hid (fun (w' : World) (hb : Below w.heap.size w w') => containsFunc_any A1 c1 18 sg w' hl (hs.bt hb) (by unfold maxLen; omega) false hd)
  clear hs
  go_enter Tryd.func18, Tryd.ntmps18
  go_wp2_with (first
    | (go_at_call 26; refine (HI.out _).mono ?_; rintro e w1 ⟨rfl, rfl⟩)
    | (go_at_call 38; refine (HC.out _ ((Below.refl _ _).alloc (Nat.le_refl _) _)).mono ?_; rintro e w1 ⟨rfl, rfl⟩)
    | fail)
  go_ret
  exact ⟨rfl, (Below.refl _ _).alloc (Nat.le_refl _) _⟩

set_option maxHeartbeats 2000000 in
theorem Verify_in (rt m : ByteArray) (i : Int) (A1 A2 : Option Addr) (c1 c2 : Nat) (sg pt : List ByteArray) (w : World) (hl : sg.length = 18) (hs1 : Strs w w.heap.size A1 sg) (hs2 : Strs w w.heap.size A2 pt) (h : pt.length ≤ 8) (hd : Tr.digs sg = true)
    (hc1 : 18 ≤ c1) (hm1 : c1 ≤ maxLen) (hc2 : pt.length ≤ c2) (hm2 : c2 ≤ maxLen) (hm : m.size ≤ maxLen) (hz : ∀ s ∈ pt, s.size ≤ 1000000000) (hp : Pow w.heap.size w) :
    Calls Tryd.prog 18 #[.string rt, .string m, .agg #[.int .i64 i, .slice A1 18 c1, .slice A2 pt.length c2]] w fun e w' => e = .returned (.bool (Tr.check rt ((2 ^ pt.length : Nat) : Int) i (Tr.dg (Se.ends m sg)) pt)) ∧ Below w.heap.size w w' := by
  have HI := Lib.hid (fun w => isHeight_yes pt.length w h)
  have HC := Lib.hid (fun (w' : World) (hb : Below w.heap.size w w') => containsFunc_any A1 c1 18 sg w' hl (hs1.bt hb) (by unfold maxLen; omega) true hd)
  have SK := Lib.hid (fun (w' : World) (hb : Below w.heap.size w w') => signingKey_any A1 c1 sg m w' (hs1.bt hb) hl hc1 hm1 (fun s hs => by rw [digs_small hd s hs]; omega) hm (hp.bt hb))
  have CK := Lib.hid (fun (w' : World) (hb : Below w.heap.size w w') => Check_any rt ((2 ^ pt.length : Nat) : Int) i (Tr.dg (Se.ends m sg)) A2 c2 pt w' (by rw [Tr.dg_size]; omega) (hs2.bt hb) hz hc2 hm2 (hp.bt hb))
  have WP := Lib.hid (wrap_pow' pt.length (by omega))
  have hbA := (Below.refl w.heap.size w).alloc (Nat.le_refl _) (.cells #[.int .i64 i, .slice A1 18 c1, .slice A2 pt.length c2] 24)
  have b0 := Boxed3.new w (.int .i64 i) (.slice A1 18 c1) (.slice A2 pt.length c2)
  have B0 := Lib.hid b0
  obtain ⟨k0, k1, k2, _, _, _⟩ := b0.cells
  clear hs1 hs2 hz hl hd b0
  unfold maxLen at hm1 hm2
  generalize Tr.check rt ((2 ^ pt.length : Nat) : Int) i (Tr.dg (Se.ends m sg)) pt = res at *
  generalize Tr.dg (Se.ends m sg) = ky at *
  generalize hn : pt.length = n at *
  clear hn
  go_enter Tryd.func18, Tryd.ntmps18
  go_wp2_with (first
    | (go_at_call 26; refine (HI.out _).mono ?_; rintro e w1 ⟨rfl, rfl⟩)
    | (go_at_call 38; refine (HC.out _ hbA).mono ?_; rintro e w1 ⟨rfl, rfl⟩)
    | fail)
  go_region_held3 (fun w' => w'.cell? ⟨w.heap.size, 0, none⟩ = some (.int .i64 i) ∧ w'.cell? ⟨w.heap.size, 1, none⟩ = some (.slice A1 18 c1) ∧ w'.cell? ⟨w.heap.size, 2, none⟩ = some (.slice A2 n c2)) (first | exact ⟨k0, k1, k2⟩ | exact ⟨e0, e1, e2⟩ | exact ⟨g0, g1, g2⟩)
    (first
      | (go_at_call 41
         (with_reducible refine (SK.out _ hbA.drew).mono ?_)
         rintro e w1 ⟨rfl, hb1⟩
         have hb1' := Bt hbA.drew hb1
         obtain ⟨e0, e1, e2, _, _, _⟩ := (Boxed3.bt (w := (w.alloc (.cells #[.int .i64 i, .slice A1 18 c1, .slice A2 n c2] 24)).drew) B0.out hb1).cells)
      | (go_at_call 40
         rw [WP.out]
         (with_reducible refine (CK.out _ hb1').mono ?_)
         rintro e w2 ⟨rfl, hb2⟩
         have hb2' := Bt hb1' hb2
         obtain ⟨g0, g1, g2, _, _, _⟩ := ((Boxed3.bt (w := (w.alloc (.cells #[.int .i64 i, .slice A1 18 c1, .slice A2 n c2] 24)).drew) B0.out hb1).bt hb2).cells)
      | fail)
  go_wp2
  go_ret
  exact ⟨rfl, hb2'⟩

theorem Verify_any (rt m : ByteArray) (i : Int) (A1 A2 : Option Addr) (c1 c2 : Nat) (sg pt : List ByteArray) (w : World) (hs1 : Strs w w.heap.size A1 sg) (hs2 : Strs w w.heap.size A2 pt)
    (hc1 : sg.length ≤ c1) (hm1 : c1 ≤ maxLen) (hc2 : pt.length ≤ c2) (hm2 : c2 ≤ maxLen) (hm : m.size ≤ maxLen) (hz : ∀ s ∈ pt, s.size ≤ 1000000000) (hp : Pow w.heap.size w) :
    Calls Tryd.prog 18 #[.string rt, .string m, .agg #[.int .i64 i, .slice A1 sg.length c1, .slice A2 pt.length c2]] w fun e w' => e = .returned (.bool (vf rt m i sg pt)) ∧ Below w.heap.size w w' := by
  by_cases hl : sg.length = 18
  · rw [hl]
    by_cases h8 : pt.length ≤ 8
    · by_cases hd : Tr.digs sg = true
      · rw [vf_in hl h8 hd]
        exact Verify_in rt m i A1 A2 c1 c2 sg pt w hl hs1 hs2 h8 hd (by omega) hm1 hc2 hm2 hm hz hp
      · have hd' := Bool.eq_false_iff.2 hd
        rw [vf_digs hd']
        exact Verify_digs rt m i A1 A2 pt.length c1 c2 sg w hl hs1 h8 hd'
    · rw [vf_path (by omega)]
      exact Verify_path rt m i A1 A2 pt.length c1 c2 w (by omega) (by omega)
  · rw [vf_len hl]
    exact Verify_len rt m i A1 A2 sg.length pt.length c1 c2 w hl (by omega)
end Go.Proofs.YtdlmbpoihnifiaaDoor

namespace Go.Proofs.YtdlmbpoihnifiaaDoor
open Go.RowKit
set_option maxRecDepth 100000
set_option linter.unusedSimpArgs false
set_option linter.unusedVariables false

theorem check_path3 (l : List ByteArray) (i : Nat) (hi : i < l.length) (hn : l.length ≤ 1000000) : Tr.check (Tr.root l) l.length i l[i] (Tr.path l i) = true := by
  have h1 := Tr.path_length _ l i (Nat.le_refl _) hi
  have h2 := Tr.up_path _ l i (Nat.le_refl _) hi
  have h3 := Tr.digs_path _ l i (Nat.le_refl _)
  unfold Tr.check
  rw [decide_eq_true (show (0 : Int) ≤ (i : Int) ∧ (i : Int) < (l.length : Int) ∧ (l.length : Int) ≤ 1000000 by omega)]
  simp [h1, h2, h3]

theorem start_digest (s : ByteArray) (i k : Nat) : Dg.isDigest (Se.start s i k).data.toList = true := Dg.isDigest_sum _
theorem ch_start_digest (s : ByteArray) (i k n : Nat) : Dg.isDigest (Se.ch (Se.start s i k) n).data.toList = true := by
  cases n with
  | zero => exact start_digest s i k
  | succ n => exact Se.ch_digest _ _
theorem sig_digs (s : ByteArray) (i : Nat) (m : ByteArray) : Tr.digs (Se.sig s i m) = true := by
  unfold Tr.digs Se.sig
  rw [List.all_map, List.all_eq_true]
  intro k _
  exact ch_start_digest s i k _
theorem pow_le {h : Nat} (hh : h ≤ 9) : 2 ^ h ≤ 512 := Nat.pow_le_pow_right (n := 2) (by omega) hh
theorem path_len (s : ByteArray) (h i : Nat) (hi : i < 2 ^ h) : (Tr.path (Se.keys s h) i).length = h := (Se.verifies (s := s) (m := ⟨#[]⟩) hi).2
theorem path_digs (s : ByteArray) (h i : Nat) : Tr.digs (Tr.path (Se.keys s h) i) = true := Tr.digs_path _ _ i (Nat.le_refl _)
theorem digs_le {ss : List ByteArray} (h : Tr.digs ss = true) : ∀ s ∈ ss, s.size ≤ 1000 := fun s hs => by rw [digs_small h s hs]; omega

/-- One's own seal is accepted. -/
theorem vf_own (s m : ByteArray) (h i : Nat) (hh : h ≤ 8) (hi : i < 2 ^ h) : vf (pub s h) m i (Se.sig s i m) (Tr.path (Se.keys s h) i) = true := by
  have hl := Se.keys_length s h
  have hp := path_len s h i hi
  have hpw := pow_le (show h ≤ 9 by omega)
  rw [vf_in (Se.sig_length s i m) (by rw [hp]; exact hh) (sig_digs s i m), hp, Se.ends_sig]
  have := check_path3 (Se.keys s h) i (by omega) (by omega)
  rw [Se.keys_get s h i hi] at this
  rw [hl] at this
  exact this

/-- What is accepted: the parts. -/
theorem vf_parts {rt m : ByteArray} {i : Int} {sg pt : List ByteArray} (h : vf rt m i sg pt = true) :
    sg.length = 18 ∧ pt.length ≤ 8 ∧ Tr.digs sg = true ∧ Tr.digs pt = true ∧ ∃ j : Nat, i = (j : Int) ∧ j < 2 ^ pt.length ∧ Tr.up (2 ^ pt.length) j (Tr.leaf (Tr.dg (Se.ends m sg))) pt = rt := by
  unfold vf Tr.check at h
  simp only [Bool.and_eq_true, decide_eq_true_eq] at h
  obtain ⟨h1, h2, h3, ⟨⟨h4, h5⟩, h6⟩, h7⟩ := h
  refine ⟨h1, h2, h3, h5, i.toNat, by omega, by omega, ?_⟩
  rw [Int.toNat_natCast] at h7
  exact h7

theorem up_digest : ∀ (N n i : Nat) (d : ByteArray) (p : List ByteArray), n ≤ N → Dg.isDigest d.data.toList = true → Dg.isDigest (Tr.up n i d p).data.toList = true
  | 0, n, i, d, p, h, hd => by rw [Tr.up_one i d p (by omega)]; exact hd
  | N + 1, n, i, d, p, h, hd => by
    by_cases h1 : n ≤ 1
    · rw [Tr.up_one i d p h1]; exact hd
    · by_cases hi : i < Tr.half n
      · rw [Tr.up_lo _ _ (by omega) hi]; exact Dg.isDigest_sum _
      · rw [Tr.up_hi _ _ (by omega) hi]; exact Dg.isDigest_sum _

theorem vf_digest {rt m : ByteArray} {i : Int} {sg pt : List ByteArray} (h : vf rt m i sg pt = true) : Dg.isDigest rt.data.toList = true := by
  obtain ⟨_, _, _, _, j, _, _, hu⟩ := vf_parts h
  rw [← hu]
  exact up_digest _ _ _ _ _ (Nat.le_refl _) (Dg.isDigest_sum _)
theorem pub_digest (s : ByteArray) (h : Nat) (hh : h ≤ 8) : Dg.isDigest (pub s h).data.toList = true := vf_digest (vf_own s ⟨#[]⟩ h 0 hh (Nat.pow_pos (by omega)))
theorem pub_size (s : ByteArray) (h : Nat) : (pub s h).size = 16 := Tr.root_size _

/-- The seal that Sign returns, with its lists as slices. -/
def SealR (i : Int) (sg pt : List ByteArray) (err : Int) (w : World) (e : Ending) (w' : World) : Prop :=
  ∃ A1 A2 c1 c2, e = .returned (.tuple #[.agg #[.int .i64 i, .slice A1 sg.length c1, .slice A2 pt.length c2], .int .i64 err]) ∧ Strs w' w'.heap.size A1 sg ∧ Strs w' w'.heap.size A2 pt ∧ sg.length ≤ c1 ∧ c1 ≤ maxLen ∧ pt.length ≤ c2 ∧ c2 ≤ maxLen ∧ Below w.heap.size w w'
theorem GivesSeal.form {i : Int} {sg pt : List ByteArray} {err : Int} {w w' : World} {e : Ending} (h : GivesSeal i sg pt err w e w') : SealR i sg pt err w e w' := by
  obtain ⟨v1, v2, rfl, h1, h2, hb⟩ := h
  obtain ⟨A1, c1, rfl, s1, l1, m1⟩ := h1.form
  obtain ⟨A2, c2, rfl, s2, l2, m2⟩ := h2.form
  exact ⟨A1, A2, c1, c2, rfl, s1, s2, l1, m1, l2, m2, hb⟩

theorem sign_ok (s m : ByteArray) (h i : Nat) (w : World) (hs : s.size ≤ 1000000000) (hm : m.size ≤ maxLen) (hh : h ≤ 8) (hi : i < 2 ^ h) (hp : Pow w.heap.size w) :
    Calls Tryd.prog 15 #[.string s, .int .i64 (h : Int), .int .i64 (i : Int), .string m] w fun e w' => ∃ A1 A2 c1 c2, e = .returned (.tuple #[.agg #[.int .i64 (i : Int), .slice A1 18 c1, .slice A2 h c2], .int .i64 0]) ∧ Strs w' w'.heap.size A1 (Se.sig s i m) ∧ Strs w' w'.heap.size A2 (Tr.path (Se.keys s h) i) ∧ 18 ≤ c1 ∧ c1 ≤ maxLen ∧ h ≤ c2 ∧ c2 ≤ maxLen ∧ Below w.heap.size w w' := by
  refine (Sign_ok s m h i w hs hm hh hi hp).mono fun e w' hg => ?_
  obtain ⟨A1, A2, c1, c2, he, h1, h2, h3, h4, h5, h6, h7⟩ := hg.form
  rw [Se.sig_length] at he h3
  rw [path_len s h i hi] at he h5
  exact ⟨A1, A2, c1, c2, he, h1, h2, h3, h4, h5, h6, h7⟩
theorem sign_err2 (s m : ByteArray) (h : Nat) (i : Int) (w : World) (hs : s.size ≤ 1000000000) (hh : h ≤ 8) (hi : i < 0 ∨ ((2 ^ h : Nat) : Int) ≤ i) (hp : Pow w.heap.size w) :
    Calls Tryd.prog 15 #[.string s, .int .i64 (h : Int), .int .i64 i, .string m] w fun e w' => ∃ A1 A2 c1 c2, e = .returned (.tuple #[.agg #[.int .i64 0, .slice A1 0 c1, .slice A2 0 c2], .int .i64 1]) ∧ Below w.heap.size w w' := by
  refine (Sign_err2 s m h i w hs hh hi hp).mono fun e w' hg => ?_
  obtain ⟨A1, A2, c1, c2, he, _, _, _, _, _, _, h7⟩ := hg.form
  exact ⟨A1, A2, c1, c2, he, h7⟩
theorem verify_ex (rt m : ByteArray) (i : Int) (A1 A2 : Option Addr) (c1 c2 k1 k2 : Nat) (sg pt : List ByteArray) (hk1 : sg.length = k1) (hk2 : pt.length = k2) (b : Bool) (hb : vf rt m i sg pt = b) (w : World) (hs1 : Strs w w.heap.size A1 sg) (hs2 : Strs w w.heap.size A2 pt)
    (hc1 : k1 ≤ c1) (hm1 : c1 ≤ maxLen) (hc2 : k2 ≤ c2) (hm2 : c2 ≤ maxLen) (hm : m.size ≤ maxLen) (hz : ∀ s ∈ pt, s.size ≤ 1000000000) (hp : Pow w.heap.size w) :
    Calls Tryd.prog 18 #[.string rt, .string m, .agg #[.int .i64 i, .slice A1 k1 c1, .slice A2 k2 c2]] w fun e w' => e = .returned (.bool b) ∧ Below w.heap.size w w' := by
  subst hk1 hk2 hb
  exact Verify_any rt m i A1 A2 c1 c2 sg pt w hs1 hs2 hc1 hm1 hc2 hm2 hm hz hp
end Go.Proofs.YtdlmbpoihnifiaaDoor
