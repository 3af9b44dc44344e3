/- The library's stable sort at slices of int: insertion, the exchange of two stretches, rotation. -/
import Derived.Test.YtkbncdcphohmiaaGreatDoorMoStab
import Derived.Test.YtkbncdcphohmiaaGreatDoorProg
import Derived.Shelf.SlSortCmp.Insertion1
import Derived.Deep.LoopGhost
import Derived.Lib.Hide
import Derived.Below
set_option linter.unusedSimpArgs false
set_option linter.unusedVariables false
namespace Go.Proofs.YtkbncdcphohmiaaGreatDoor
open Go.Shelf Go.RowKit Go.Lib Go.Sort
set_option maxRecDepth 100000

def Sb.ren : Go.Shelf.Ren := ⟨fun | 20 => 126 | n => n, fun | 0 => 0 | 3 => 3 | 4 => 4 | 22 => 41 | 24 => 3 | 25 => 78 | n => n, fun | n => n⟩
theorem Sb.laysIns : SlLaysF.n20 Tryz.prog Sb.ren := {
  mixed := by kernel_rfl
  f20 := ⟨"slices.insertionSortCmpFunc[int]", by decide, Tryz.func126.trans (congrArg some (by kernel_rfl))⟩
  t0 := Tryz.underlying0
  a0 := Tryz.isAgg0
  z0 := Tryz.sizeOf0
  v0 := Tryz.zeroValue0
  t3 := Tryz.underlying3
  a3 := Tryz.isAgg3
  z3 := Tryz.sizeOf3
  v3 := Tryz.zeroValue3
  t4 := Tryz.underlying4
  a4 := Tryz.isAgg4
  z4 := Tryz.sizeOf4
  v4 := Tryz.zeroValue4
  t22 := Tryz.underlying41
  a22 := Tryz.isAgg41
  z22 := Tryz.sizeOf41
  v22 := Tryz.zeroValue41
  a24 := Tryz.isAgg3
  z24 := Tryz.sizeOf3
  t25 := Tryz.underlying78
  a25 := Tryz.isAgg78
  z25 := Tryz.sizeOf78
  v25 := Tryz.zeroValue78 }

variable {α : Type} [Inhabited α]
/-- What exchanging two stretches leaves. -/
def Sb.SwpP (enc : α → Value) (w0 : World) (blk off : Nat) (d : Array α) (p q n : Nat) (e : Ending) (w' : World) : Prop := e = .returned (.tuple #[]) ∧ ∃ d', Sb.Swp d d' p q n ∧ PermIn p (q + n) d d' ∧ SW enc w0 blk off d' w'

set_option maxHeartbeats 4000000 in
theorem Sb.swap_any (enc : α → Value) (fv : Value) (blk off cap p q n : Nat) (d0 d : Array α) (w0 w : World) (R : Row1 enc w0 blk off d0) (hs : d0.size = d.size) (S : SW enc w0 blk off d w) (hpq : p + n ≤ q) (hq : q + n ≤ d.size) (hsz : d.size < 4611686018427387904) :
    Calls Tryz.prog 178 #[.slice (some ⟨blk, off, none⟩) d.size cap, .int .i64 p, .int .i64 q, .int .i64 n, fv] w (Sb.SwpP enc w0 blk off d p q n) := by
  have hcl0 := R.hO.cells
  simp only [Value.cells] at hcl0
  have hst := R.hO.store Tryz.prog
  have HS : Hid (d0.size = d.size) := Lib.hid hs
  have S0 : Aside (SW enc w0 blk off d w) := S
  clear S hs
  go_enter Tryz.func178, Tryz.ntmps178
  go_wp2
  go_loopw [10] (fun vi wr => ∃ (i : Nat) (dk : Array α), vi = .int .i64 i ∧ i ≤ n ∧ Hid (Sb.Swp d dk p q i) ∧ Hid (PermIn p (q + n) d dk) ∧ Aside (SW enc w0 blk off dk wr)) (fun vi _ => n - (intOf vi).toNat)
  case atStart => exact ⟨0, d, rfl, Nat.zero_le _, Lib.hid (Sb.Swp.start d p q), Lib.hid (permIn_refl _ _ _), S0⟩
  case round =>
    clear S0
    obtain ⟨i, dk, rfl, hin, HW, HP, SJ⟩ := hrel
    have hdk : Hid (dk.size = d.size) := Lib.hid HW.out.size
    by_cases hlt : i < n
    · have hlti : (i : Int) < (n : Int) := by omega
      obtain ⟨iN, hiN⟩ : ∃ k, k = p + i := ⟨_, rfl⟩
      obtain ⟨jN, hjN⟩ : ∃ k, k = q + i := ⟨_, rfl⟩
      have ea : ((p : Int) + (i : Int)).toNat = iN := by omega
      have pa : (0 : Int) ≤ (p : Int) + (i : Int) := by omega
      have ba : (p : Int) + (i : Int) < (d.size : Int) := by omega
      have ra : IntKind.i64.wrap ((p : Int) + (i : Int)) = (p : Int) + (i : Int) := by rw [IntKind.wrap_i64]; omega
      have ec : ((q : Int) + (i : Int)).toNat = jN := by omega
      have pc : (0 : Int) ≤ (q : Int) + (i : Int) := by omega
      have bc : (q : Int) + (i : Int) < (d.size : Int) := by omega
      have rc : IntKind.i64.wrap ((q : Int) + (i : Int)) = (q : Int) + (i : Int) := by rw [IntKind.wrap_i64]; omega
      obtain ⟨x, hx⟩ : ∃ x, x = dk[p + i]! := ⟨_, rfl⟩
      obtain ⟨y, hy⟩ : ∃ x, x = dk[q + i]! := ⟨_, rfl⟩
      have hz1 : dk.size = d0.size := hdk.out.trans HS.out.symm
      have h1 : p + i < dk.size := by rw [hdk.out]; omega
      have h2 : q + i < dk.size := by rw [hdk.out]; omega
      have S3 : Aside (SW enc w0 blk off (swp dk (p + i) (q + i)) ((wr.setCell ⟨blk, off + iN, none⟩ (enc y)).setCell ⟨blk, off + jN, none⟩ (enc x)).drew) := by rw [hiN, hjN, hx, hy]; exact SJ.out.swapped R (p + i) (q + i) h1 h2
      have ca := SJ.out.c1 R hz1 (p + i) h1
      have cb := SJ.out.c1 R hz1 (q + i) h2
      have fa := SJ.out.f1 R hz1 (p + i) h1
      have fb := SJ.out.f1 R hz1 (q + i) h2
      obtain ⟨u, cc⟩ := SJ.out.c2 R hz1 (p + i) (q + i) h1 h2 (enc y)
      have HW2 : Hid (Sb.Swp d (swp dk (p + i) (q + i)) p q (i + 1)) := Lib.hid (HW.out.step hlt hpq hq)
      have HP2 : Hid (PermIn p (q + n) d (swp dk (p + i) (q + i))) := Lib.hid (permIn_trans _ _ _ _ _ HP.out (swp_permIn dk p (q + n) (p + i) (q + i) (by omega) (by omega) (by omega) (by omega) (by rw [hdk.out]; exact hq)))
      rw [← hjN, ← hiN] at cc
      rw [← hx, ← hiN] at ca
      rw [← hy, ← hjN] at cb
      rw [← hiN] at fa
      rw [← hjN] at fb
      clear SJ hx hy hiN hjN HW HP hz1 h1 h2 hdk
      have mixed := Sb.laysIns.mixed
      go_wp2_with fail
      go_big_region_o
      clear ca cb cc fa fb
      generalize ((wr.setCell ⟨blk, off + iN, none⟩ (enc y)).setCell ⟨blk, off + jN, none⟩ (enc x)).drew = w3 at S3 ⊢
      clear ea ec
      go_wp2
      go_roundw
      case rel => exact ⟨i + 1, swp dk (p + i) (q + i), by go_num, by omega, HW2, HP2, S3⟩
      case measure => simp [intOf]; omega
    · have hnot : ¬ (i : Int) < (n : Int) := by omega
      obtain rfl : i = n := by omega
      go_wp2
      go_end0
      exact ⟨rfl, dk, HW.out, HP.out, SJ.out⟩

/-- What rotating leaves. -/
def Sb.RotP (enc : α → Value) (w0 : World) (blk off : Nat) (d : Array α) (a m b : Nat) (e : Ending) (w' : World) : Prop := e = .returned (.tuple #[]) ∧ ∃ d', (∀ k, d'[k]! = Sb.rot a m b d k) ∧ PermIn a b d d' ∧ SW enc w0 blk off d' w'
/-- On the way through a rotation. -/
structure Sb.Mid (d dk : Array α) (a m b i j : Nat) : Prop where
  rot : Sb.Rot (Sb.rot a m b d) m i j dk
  perm : PermIn a b d dk
  pos : 0 < i ∧ 0 < j
  le : a + i ≤ m ∧ m + j ≤ b
theorem Sb.Mid.size {d dk : Array α} {a m b i j : Nat} (h : Sb.Mid d dk a m b i j) : dk.size = d.size := h.perm.1

set_option maxHeartbeats 4000000 in
theorem Sb.rotate_any (enc : α → Value) (fv : Value) (blk off cap a m b : Nat) (d0 d : Array α) (w0 w : World) (R : Row1 enc w0 blk off d0) (hs : d0.size = d.size) (S : SW enc w0 blk off d w) (ham : a < m) (hmb : m < b) (hb : b ≤ d.size) (hsz : d.size < 4611686018427387904) :
    Calls Tryz.prog 161 #[.slice (some ⟨blk, off, none⟩) d.size cap, .int .i64 a, .int .i64 m, .int .i64 b, fv] w (Sb.RotP enc w0 blk off d a m b) := by
  have HS : Hid (d0.size = d.size) := Lib.hid hs
  have S0 : Aside (SW enc w0 blk off d w) := S
  have CS : Hid (∀ (p q n : Int) (p' q' n' : Nat) (dk : Array α) (v : World), p = p' → q = q' → n = n' → dk.size = d.size → SW enc w0 blk off dk v → p' + n' ≤ q' → q' + n' ≤ d.size → Calls Tryz.prog 178 #[.slice (some ⟨blk, off, none⟩) d.size cap, .int .i64 p, .int .i64 q, .int .i64 n, fv] v (Sb.SwpP enc w0 blk off dk p' q' n')) :=
    Lib.hid (fun p q n p' q' n' dk v e1 e2 e3 hk hS h1 h2 => by
      subst e1 e2 e3
      rw [← hk]
      exact Sb.swap_any enc fv blk off cap p' q' n' d0 dk w0 v R (hs.trans hk.symm) hS h1 (by rw [hk]; exact h2) (by rw [hk]; exact hsz))
  have HM0 : Hid (Sb.Mid d d a m b (m - a) (b - m)) := Lib.hid ⟨Sb.Rot.start a m b d (by omega) (by omega), permIn_refl _ _ _, by omega, by omega⟩
  have HB : Hid (b ≤ d.size) := Lib.hid hb
  have g1 : (m : Int) - (a : Int) = ((m - a : Nat) : Int) := by omega
  have g2 : (b : Int) - (m : Int) = ((b - m : Nat) : Int) := by omega
  have HG : Hid ((m : Int) - (a : Int) = ((m - a : Nat) : Int) ∧ (b : Int) - (m : Int) = ((b - m : Nat) : Int)) := Lib.hid ⟨g1, g2⟩
  clear S hs g1 g2 R
  go_enter Tryz.func161, Tryz.ntmps161
  go_wp2
  go_loopw [10, 11] (fun vi vj wr => ∃ (i j : Nat) (dk : Array α), vi = .int .i64 i ∧ vj = .int .i64 j ∧ Hid (Sb.Mid d dk a m b i j) ∧ Aside (SW enc w0 blk off dk wr)) (fun vi vj _ => (intOf vi).toNat + (intOf vj).toNat)
  case atStart => exact ⟨m - a, b - m, d, by rw [HG.out.1], by rw [HG.out.2], HM0, S0⟩
  case round =>
    clear S0 HM0 HG
    obtain ⟨i, j, dk, rfl, rfl, HM, SJ⟩ := hrel
    have hi1 := HM.out.le.1
    have hj1 := HM.out.le.2
    have hi0 := HM.out.pos.1
    have hj0 := HM.out.pos.2
    have hb := HB.out
    have HK : Hid (dk.size = d.size) := Lib.hid HM.out.size
    by_cases hij : i = j
    · subst hij
      have CC := Lib.hid (CS.out ((m : Int) - (i : Int)) (m : Int) (i : Int) (m - i) m i dk _ (by omega) rfl rfl HK.out SJ.out (by omega) (by omega))
      have hne : ((i : Int) != (i : Int)) = false := by simp
      clear CS SJ hb
      go_wp2_with fail
      refine CC.out.mono ?_
      rintro e w2 ⟨rfl, d', h1, h2, h3⟩
      have HE : Hid ((∀ k, d'[k]! = Sb.rot a m b d k) ∧ PermIn a b d d' ∧ SW enc w0 blk off d' w2) := Lib.hid ⟨fun k => (HM.out.rot.fin h1 k).symm, permIn_trans _ _ _ _ _ HM.out.perm (permIn_mono _ _ _ _ _ _ (by omega) (by omega) (by rw [HK.out]; exact HB.out) h2), h3⟩
      clear h1 h2 h3 CC
      go_wp2
      go_end0
      exact ⟨rfl, d', HE.out⟩
    · by_cases hlt : j < i
      · have CC := Lib.hid (CS.out ((m : Int) - (i : Int)) (m : Int) (j : Int) (m - i) m j dk _ (by omega) rfl rfl HK.out SJ.out (by omega) (by omega))
        have hne : ((i : Int) != (j : Int)) = true := by simp; omega
        have hgt : decide ((j : Int) < (i : Int)) = true := decide_eq_true (by omega)
        have hw : (i : Int) - (j : Int) = ((i - j : Nat) : Int) := by omega
        have HW := Lib.hid hw
        clear CS SJ hb hw hij
        go_wp2_with fail
        refine CC.out.mono ?_
        rintro e w2 ⟨rfl, d', h1, h2, h3⟩
        have HE : Hid (Sb.Mid d d' a m b (i - j) j) := Lib.hid ⟨HM.out.rot.down hlt h1, permIn_trans _ _ _ _ _ HM.out.perm (permIn_mono _ _ _ _ _ _ (by omega) (by omega) (by rw [HK.out]; exact HB.out) h2), by omega, by omega⟩
        have S3 : Aside (SW enc w0 blk off d' w2) := h3
        clear h1 h2 h3 CC HM HK
        go_wp2
        go_roundw
        case rel => exact ⟨i - j, j, d', by rw [HW.out], rfl, HE, S3⟩
        case measure => simp [intOf]; omega
      · have CC := Lib.hid (CS.out ((m : Int) - (i : Int)) ((m : Int) + (j : Int) - (i : Int)) (i : Int) (m - i) (m + j - i) i dk _ (by omega) (by omega) rfl HK.out SJ.out (by omega) (by omega))
        have hne : ((i : Int) != (j : Int)) = true := by simp; omega
        have hgt : decide ((j : Int) < (i : Int)) = false := decide_eq_false (by omega)
        have hw : (j : Int) - (i : Int) = ((j - i : Nat) : Int) := by omega
        have HW := Lib.hid hw
        have hlt2 : i < j := by omega
        clear CS SJ hb hw hij hlt
        go_wp2_with fail
        refine CC.out.mono ?_
        rintro e w2 ⟨rfl, d', h1, h2, h3⟩
        have HE : Hid (Sb.Mid d d' a m b i (j - i)) := Lib.hid ⟨HM.out.rot.up hlt2 h1, permIn_trans _ _ _ _ _ HM.out.perm (permIn_mono _ _ _ _ _ _ (by omega) (by omega) (by rw [HK.out]; exact HB.out) h2), by omega, by omega⟩
        have S3 : Aside (SW enc w0 blk off d' w2) := h3
        clear h1 h2 h3 CC HM HK
        go_wp2
        go_roundw
        case rel => exact ⟨i, j - i, d', rfl, by rw [HW.out], HE, S3⟩
        case measure => simp [intOf]; omega
end Go.Proofs.YtkbncdcphohmiaaGreatDoor
