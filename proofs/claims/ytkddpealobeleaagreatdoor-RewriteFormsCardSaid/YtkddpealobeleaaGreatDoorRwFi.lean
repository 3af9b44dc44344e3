/- Layer 10: does a rule stand at a place; lists of bytes. -/
import Derived.Test.YtkddpealobeleaaGreatDoorRwAt
set_option linter.unusedSimpArgs false
set_option linter.unusedVariables false
namespace Go.Proofs.YtkddpealobeleaaGreatDoor
open Go.RowKit Go.Shelf
set_option maxRecDepth 100000
set_option maxHeartbeats 4000000
/-- The slice at A holds these small numbers; its cells lie below block B. -/
def Rw.Ys (w : World) (B : Nat) (A : Option Addr) (l : List Int) : Prop := ∀ k (h : k < l.length), ∃ ad, A = some ad ∧ ad.block < B ∧ w.cell? (ad.add k) = some (.int .u8 l[k]) ∧ 0 ≤ l[k] ∧ l[k] ≤ 255
theorem Rw.Ys.bt {w w' : World} {A : Option Addr} {l : List Int} (h : Rw.Ys w w.heap.size A l) (hb : Below w.heap.size w w') : Rw.Ys w' w'.heap.size A l := fun k hk => by
  obtain ⟨ad, e, hlt, hc, h1⟩ := h k hk
  exact ⟨ad, e, Nat.lt_of_lt_of_le hlt hb.size, (hb.cell (by rw [add_block]; exact hlt)).trans hc, h1⟩
def Rw.fitB (u : Rw.Rl) (k : Int) (l : List ByteArray) (i : Nat) : Bool := decide (u.k = k) && Rw.atB l i ((Nm.ls (Nm.sc u.k) u.frm.data.toList).map Nm.bt)
theorem Rw.fits_any (u : Rw.Rl) (k : Int) (A : Option Addr) (c : Nat) (l : List ByteArray) (n i m : Nat) (hn : l.length = n) (hm : (Nm.ls (Nm.sc u.k) u.frm.data.toList).length = m) (hw : Nm.isW (Nm.sc u.k) u.frm.data.toList = true) (hz : u.frm.size ≤ maxLen) (w : World) (ha : Strs w w.heap.size A l) (hT : Nm.Tb w.heap.size w) (hn1 : n ≤ 1000) (hi : i ≤ 1000) :
    Calls Tryz.prog 30 #[u.val, .int .i64 k, .slice A n c, .int .i64 (i : Int)] w fun e w' => e = .returned (.tuple #[.bool (Rw.fitB u k l i), .int .i64 (m : Int)]) ∧ Below w.heap.size w w' := by
  have hm12 : m ≤ 12 := by rw [← hm]; exact (Nm.isW_iff.1 hw).2.2
  have hb := Nm.al w (.cells #[.int .i64 u.k, .string u.frm, .string u.to, .int .i64 u.cost] 52)
  have BX : Rw.Bx (w.alloc (.cells #[.int .i64 u.k, .string u.frm, .string u.to, .int .i64 u.cost] 52)) w.heap.size #[.int .i64 u.k, .string u.frm, .string u.to, .int .i64 u.cost] 52 := heap_alloc_new _ _
  have x0 := BX.c 0 _ rfl
  have x1 := BX.c 1 _ rfl
  have L1 := Lib.hid (Nm.letters_ok u.k u.frm _ hw hz (hT.bt hb))
  obtain ⟨M, hM⟩ : ∃ M, (Nm.ls (Nm.sc u.k) u.frm.data.toList) = M := ⟨_, rfl⟩
  have HF : Hid (Rw.fitB u k l i = (decide (u.k = k) && Rw.atB l i (M.map Nm.bt))) := Lib.hid (by unfold Rw.fitB; rw [hM])
  rw [hM] at L1 hm
  have HM := Lib.hid hm
  have HB := Lib.hid hb
  have HA := Lib.hid (Nm.sbt ha hb)
  have HN := Lib.hid hn
  have BX0 := Lib.hid BX
  generalize Rw.fitB u k l i = res at *
  clear hw hz ha hT hM hm hb hn BX
  unfold Rw.Rl.val
  go_enter Tryz.func30, Tryz.ntmps30
  go_wp2_with fail
  refine L1.out.mono ?_
  rintro e w1 ⟨v, rfl, o1, g1⟩
  obtain ⟨B, d, rfl, s1, _, _⟩ := o1.form
  rw [List.length_map, HM.out]
  have HB1 := Lib.hid (Nm.Nb HB.out g1)
  have x0 := (BX0.out.bt g1).c 0 _ rfl
  have AT := Lib.hid (Rw.at_any A c l n i B d (M.map Nm.bt) m HN.out (by rw [List.length_map]; exact HM.out) w1 (Nm.sbt HA.out g1) s1 hn1 (by omega) hi)
  clear o1 s1 g1 x1 L1
  by_cases hk : u.k = k
  · have hkb : (u.k == k) = true := by simp [hk]
    have HR : Hid (res = Rw.atB l i (M.map Nm.bt)) := Lib.hid (by rw [HF.out, decide_eq_true hk, Bool.true_and])
    rw [← HR.out] at AT
    go_wp2_with fail
    refine AT.out.mono ?_
    rintro e w2 ⟨rfl, g2⟩
    go_wp2
    refine bodyPost_ret (v := .tuple #[.bool res, .int .i64 (m : Int)]) (by simp [results, Tryz.f30, go_sem]) rfl ?_
    exact ⟨rfl, Nm.Nb HB1.out g2⟩
  · have hkb : (u.k == k) = false := by simp [hk]
    have HR : Hid (res = false) := Lib.hid (by rw [HF.out, decide_eq_false hk, Bool.false_and])
    go_wp2
    refine bodyPost_ret (v := .tuple #[.bool false, .int .i64 (m : Int)]) (by simp [results, Tryz.f30, go_sem]) rfl ?_
    exact ⟨by rw [HR.out], HB1.out⟩
/-- A rule that stands at a place is a step. -/
theorem Rw.fit_step {R : List Rw.Rl} {k : Int} {L : List Nm.T} {i j m : Nat} (hj : j < R.length) (hm : (Nm.ls (Nm.sc R[j].k) R[j].frm.data.toList).length = m) (h : Rw.fitB R[j] k (L.map Nm.bt) i = true) :
    i + m ≤ L.length ∧ (i + m, R[j].cost.toNat, R[j].to.data.toList) ∈ Rw.steps (Rw.rus k R) L i := by
  unfold Rw.fitB at h
  rw [Bool.and_eq_true, decide_eq_true_eq] at h
  obtain ⟨hk, ha⟩ := h
  obtain ⟨h1, h2⟩ := Rw.atB_iff.1 ha
  rw [hm] at h1 h2
  refine ⟨h1, Rw.mem_steps.2 ⟨Rw.ru R[j], ?_, ?_, ?_, rfl, rfl⟩⟩
  · unfold Rw.rus
    exact List.mem_map.2 ⟨R[j], List.mem_filter.2 ⟨List.getElem_mem _, by simpa using hk⟩, rfl⟩
  · unfold Rw.fits Rw.ru
    rw [Bool.and_eq_true, decide_eq_true_eq, decide_eq_true_eq]
    simp only
    rw [hm]
    exact ⟨h1, h2⟩
  · unfold Rw.ru
    simp only
    rw [hm]
end Go.Proofs.YtkddpealobeleaaGreatDoor
