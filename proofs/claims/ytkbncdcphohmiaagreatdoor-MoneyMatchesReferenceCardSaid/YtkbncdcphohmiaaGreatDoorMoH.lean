/- The library's stable sort at slices of int: merging where one part has one element. -/
import Derived.Test.YtkbncdcphohmiaaGreatDoorMoG
set_option linter.unusedSimpArgs false
set_option linter.unusedVariables false
namespace Go.Proofs.YtkbncdcphohmiaaGreatDoor
open Go.Shelf Go.RowKit Go.Lib Go.Sort
set_option maxRecDepth 100000
variable {α : Type} [Inhabited α]

/-- What a merge leaves. -/
def Sb.MerP (enc : α → Value) (lt : α → α → Bool) (ix : α → Nat) (w0 : World) (blk off : Nat) (d : Array α) (a b : Nat) (e : Ending) (w' : World) : Prop := e = .returned (.tuple #[]) ∧ ∃ d', PermIn a b d d' ∧ SortedIn (Sb.prB lt ix) a b d' ∧ SW enc w0 blk off d' w'
/-- Two sorted parts, the first one of places further ahead. -/
structure Sb.Two (lt : α → α → Bool) (ix : α → Nat) (d : Array α) (a m b : Nat) : Prop where
  left : SortedIn (Sb.prB lt ix) a m d
  right : SortedIn (Sb.prB lt ix) m b d
  lr : Sb.LR ix a m b d
  am : a < m
  mb : m < b
  le : b ≤ d.size
/-- The element of the place a has gone up to the place k. -/
structure Sb.Up (d dk : Array α) (a b k : Nat) : Prop where
  perm : PermIn a b d dk
  lo : ∀ t, a ≤ t → t < k → dk[t]! = d[t + 1]!
  at' : dk[k]! = d[a]!
  hi : ∀ t, k < t → dk[t]! = d[t]!
theorem Sb.Up.step {d dk : Array α} {a b k : Nat} (h : Sb.Up d dk a b k) (ha : a ≤ k) (hk : k + 1 < b) (hb : b ≤ d.size) : Sb.Up d (swp dk k (k + 1)) a b (k + 1) := by
  have hs := h.perm.1
  have g := swp_get dk (i := k) (j := k + 1) (by omega) (by omega)
  refine ⟨permIn_trans _ _ _ _ _ h.perm (swp_permIn dk a b k (k + 1) ha (by omega) (by omega) hk (by omega)), fun t h1 h2 => ?_, ?_, fun t h1 => ?_⟩
  · rw [g, if_neg (by omega)]
    by_cases e : t = k
    · subst e
      rw [if_pos rfl]
      exact h.hi _ (by omega)
    · rw [if_neg e]
      exact h.lo t h1 (by omega)
  · rw [g, if_pos rfl]
    exact h.at'
  · rw [g, if_neg (by omega), if_neg (by omega)]
    exact h.hi t (by omega)
/-- The element of the place m has gone down to the place k. -/
structure Sb.Down (d dk : Array α) (a m k : Nat) : Prop where
  perm : PermIn a (m + 1) d dk
  hi : ∀ t, k < t → t ≤ m → dk[t]! = d[t - 1]!
  at' : dk[k]! = d[m]!
  lo : ∀ t, t < k → dk[t]! = d[t]!
theorem Sb.Down.step {d dk : Array α} {a m k : Nat} (h : Sb.Down d dk a m k) (ha : a < k) (hk : k ≤ m) (hb : m + 1 ≤ d.size) : Sb.Down d (swp dk k (k - 1)) a m (k - 1) := by
  have hs := h.perm.1
  have g := swp_get dk (i := k) (j := k - 1) (by omega) (by omega)
  refine ⟨permIn_trans _ _ _ _ _ h.perm (swp_permIn dk a (m + 1) k (k - 1) (by omega) (by omega) (by omega) (by omega) (by omega)), fun t h1 h2 => ?_, ?_, fun t h1 => ?_⟩
  · rw [g, if_neg (by omega)]
    by_cases e : t = k
    · subst e
      rw [if_pos rfl]
      exact h.lo _ (by omega)
    · rw [if_neg e]
      exact h.hi t (by omega) h2
  · rw [g, if_pos rfl]
    exact h.at'
  · rw [g, if_neg (by omega), if_neg (by omega)]
    exact h.lo t (by omega)
/-- The first place of a search by halves. -/
structure Sb.Half (T : Nat → Bool) (lo hi i j : Nat) : Prop where
  le1 : lo ≤ i
  le2 : i ≤ j
  le3 : j ≤ hi
  yes : i = lo ∨ T (i - 1) = true
  no : j = hi ∨ T j = false
theorem Sb.Half.start (T : Nat → Bool) {lo hi : Nat} (h : lo ≤ hi) : Sb.Half T lo hi lo hi := ⟨Nat.le_refl _, h, Nat.le_refl _, .inl rfl, .inl rfl⟩
theorem Sb.Half.up {T : Nat → Bool} {lo hi i j h : Nat} (x : Sb.Half T lo hi i j) (h1 : i ≤ h) (h2 : h < j) (hT : T h = true) : Sb.Half T lo hi (h + 1) j :=
  ⟨by have := x.le1; omega, h2, x.le3, .inr hT, x.no⟩
theorem Sb.Half.down {T : Nat → Bool} {lo hi i j h : Nat} (x : Sb.Half T lo hi i j) (h1 : i ≤ h) (h2 : h < j) (hT : T h = false) : Sb.Half T lo hi i h :=
  ⟨x.le1, h1, by have := x.le3; omega, x.yes, .inr hT⟩

set_option maxHeartbeats 4000000 in
theorem Sb.merge_left (enc : α → Value) (cf : α → α → Int) (ix : α → Nat) (hO : SWO (ltOf cf)) (g : Nat) (cb : Array Value) (blk off cap a b : Nat) (d0 d : Array α) (w0 w : World)
    (eg : ∀ args w, (callFunc g args).run Tryz.prog w = .ok (.enter g args) w) (hcmp : CmpLays1 Tryz.prog g cb enc cf blk off d0.size w0) (R : Row1 enc w0 blk off d0) (hs : d0.size = d.size) (S : SW enc w0 blk off d w) (H : Sb.Two (ltOf cf) ix d a (a + 1) b) (hsz : d.size < 4611686018427387904) :
    Calls Tryz.prog 127 #[.slice (some ⟨blk, off, none⟩) d.size cap, .int .i64 a, .int .i64 ((a + 1 : Nat) : Int), .int .i64 b, .func (.func g) #[] cb] w (Sb.MerP enc (ltOf cf) ix w0 blk off d a b) := by
  have mixed := Sb.laysIns.mixed
  have hcl0 := R.hO.cells
  simp only [Value.cells] at hcl0
  have hst := R.hO.store Tryz.prog
  have HS : Hid (d0.size = d.size) := Lib.hid hs
  have S0 : Aside (SW enc w0 blk off d w) := S
  have HC : Aside _ := hcmp
  have HT : Hid (Sb.Two (ltOf cf) ix d a (a + 1) b) := Lib.hid H
  have HO : Hid (SWO (ltOf cf)) := Lib.hid hO
  have hmb := H.mb
  have hbd := H.le
  obtain ⟨m, hm⟩ : ∃ m, m = a + 1 := ⟨_, rfl⟩
  have HM : Hid (m = a + 1) := Lib.hid hm
  rw [← hm]
  have hq : ((m : Int) - (a : Int) == 1) = true := by simp; omega
  have ham : a < m := by omega
  have hmb' : m < b := by omega
  clear S hs H hO hcmp hm hmb
  go_enter Tryz.func127, Tryz.ntmps127
  go_wp2
  go_loopw [10, 11] (fun vi vj wr => ∃ (i j : Nat), vi = .int .i64 i ∧ vj = .int .i64 j ∧ Hid (Sb.Half (fun h => ltOf cf d[h]! d[a]!) m b i j) ∧ Aside (SW enc w0 blk off d wr)) (fun vi vj _ => (intOf vj - intOf vi).toNat)
  case atStart => exact ⟨m, b, rfl, rfl, Lib.hid (Sb.Half.start _ (by omega)), S0⟩
  case round =>
    clear S0
    obtain ⟨i, j, rfl, rfl, HH, SJ⟩ := hrel
    have hi1 := HH.out.le1
    have hi2 := HH.out.le2
    have hi3 := HH.out.le3
    by_cases hlt : i < j
    · obtain ⟨h, hh⟩ : ∃ h : Nat, h = (i + j) / 2 := ⟨_, rfl⟩
      have hm2 : ((i : Int) + (j : Int)) / 2 = (h : Int) := by omega
      have h1 : i ≤ h := by omega
      have h2 : h < j := by omega
      clear hh
      have pa : (0 : Int) ≤ (h : Int) := by omega
      have ba : (h : Int) < (d.size : Int) := by omega
      have pb : (0 : Int) ≤ (a : Int) := by omega
      have bb : (a : Int) < (d.size : Int) := by omega
      obtain ⟨x, hx⟩ : ∃ x, x = d[h]! := ⟨_, rfl⟩
      obtain ⟨y, hy⟩ : ∃ x, x = d[a]! := ⟨_, rfl⟩
      have la := SJ.out.cl R HS.out.symm h (by omega)
      have lb := SJ.out.cl R HS.out.symm a (by omega)
      rw [← hx] at la
      rw [← hy] at lb
      have hc := SJ.out.cmp HC.out HS.out.symm x y
      cases hlv : ltOf cf d[h]! d[a]! with
      | true =>
        have hd1 : decide (cf x y < 0) = true := by rw [hx, hy]; exact hlv
        have HH2 : Hid (Sb.Half (fun h => ltOf cf d[h]! d[a]!) m b (h + 1) j) := Lib.hid (HH.out.up h1 h2 hlv)
        clear hx hy hlv HH
        go_wp2_with fail
        go_quiet_grown (first | (go_at_fn g; refine Calls.grown_of (hc _ _)))
        have S2 : Aside (SW enc w0 blk off d (grow (wr.drewN nq) osq)) := SJ.out.grown nq osq
        clear la lb hc SJ
        generalize grow (wr.drewN nq) osq = w2 at S2 ⊢
        go_wp2
        go_roundw
        case rel => exact ⟨h + 1, j, by go_num, rfl, HH2, S2⟩
        case measure => simp [intOf]; omega
      | false =>
        have hd1 : decide (cf x y < 0) = false := by rw [hx, hy]; exact hlv
        have HH2 : Hid (Sb.Half (fun h => ltOf cf d[h]! d[a]!) m b i h) := Lib.hid (HH.out.down h1 h2 hlv)
        clear hx hy hlv HH
        go_wp2_with fail
        go_quiet_grown (first | (go_at_fn g; refine Calls.grown_of (hc _ _)))
        have S2 : Aside (SW enc w0 blk off d (grow (wr.drewN nq) osq)) := SJ.out.grown nq osq
        clear la lb hc SJ
        generalize grow (wr.drewN nq) osq = w2 at S2 ⊢
        go_wp2
        go_roundw
        case rel => exact ⟨i, h, rfl, rfl, HH2, S2⟩
        case measure => simp [intOf]; omega
    · obtain rfl : i = j := by omega
      have HU0 : Hid (Sb.Up d d a b a) := Lib.hid ⟨permIn_refl _ _ _, fun t h1 h2 => absurd h1 (by omega), rfl, fun _ _ => rfl⟩
      have hnl : ¬ (i : Int) < (i : Int) := by omega
      go_wp2
      go_loopw [13] (fun vk wr => ∃ (k : Nat) (dk : Array α), vk = .int .i64 k ∧ a ≤ k ∧ k + 1 ≤ i ∧ Hid (Sb.Up d dk a b k) ∧ Aside (SW enc w0 blk off dk wr)) (fun vk _ => i - (intOf vk).toNat)
      case atStart => exact ⟨a, d, rfl, Nat.le_refl _, by omega, HU0, SJ⟩
      case round =>
        clear SJ HU0
        obtain ⟨k, dk, rfl, hk1, hk2, HU, SK⟩ := hrel
        have hdk : Hid (dk.size = d.size) := Lib.hid HU.out.perm.1
        by_cases hki : k + 1 < i
        · have hkz : (k : Int) < (i : Int) - 1 := by omega
          have hkz2 : (k : Int) + 1 < (i : Int) := by omega
          obtain ⟨iN, hiN⟩ : ∃ q, q = k := ⟨_, rfl⟩
          obtain ⟨jN, hjN⟩ : ∃ q, q = k + 1 := ⟨_, rfl⟩
          have ea : ((k : Int)).toNat = iN := by omega
          have pa : (0 : Int) ≤ (k : Int) := by omega
          have ba : (k : Int) < (d.size : Int) := by omega
          have ra : IntKind.i64.wrap ((k : Int)) = (k : Int) := by rw [IntKind.wrap_i64]; omega
          have ec : ((k : Int) + 1).toNat = jN := by omega
          have pc : (0 : Int) ≤ (k : Int) + 1 := by omega
          have bc : (k : Int) + 1 < (d.size : Int) := by omega
          have rc : IntKind.i64.wrap ((k : Int) + 1) = (k : Int) + 1 := by rw [IntKind.wrap_i64]; omega
          obtain ⟨x, hx⟩ : ∃ x, x = dk[k]! := ⟨_, rfl⟩
          obtain ⟨y, hy⟩ : ∃ x, x = dk[k + 1]! := ⟨_, rfl⟩
          have hz1 : dk.size = d0.size := hdk.out.trans HS.out.symm
          have h1 : k < dk.size := by rw [hdk.out]; omega
          have h2 : k + 1 < dk.size := by rw [hdk.out]; omega
          have S3 : Aside (SW enc w0 blk off (swp dk k (k + 1)) ((wr.setCell ⟨blk, off + iN, none⟩ (enc y)).setCell ⟨blk, off + jN, none⟩ (enc x)).drew) := by rw [hiN, hjN, hx, hy]; exact SK.out.swapped R k (k + 1) h1 h2
          have ca := SK.out.c1 R hz1 k h1
          have cb' := SK.out.c1 R hz1 (k + 1) h2
          have fa := SK.out.f1 R hz1 k h1
          have fb := SK.out.f1 R hz1 (k + 1) h2
          obtain ⟨u, cc⟩ := SK.out.c2 R hz1 k (k + 1) h1 h2 (enc y)
          have HU2 : Hid (Sb.Up d (swp dk k (k + 1)) a b (k + 1)) := Lib.hid (HU.out.step hk1 (by omega) hbd)
          rw [← hjN, ← hiN] at cc
          rw [← hx, ← hiN] at ca
          rw [← hy, ← hjN] at cb'
          rw [← hiN] at fa
          rw [← hjN] at fb
          clear SK hx hy hiN hjN HU hz1 h1 h2 hdk
          go_wp2_with fail
          go_big_region_o
          clear ca cb' cc fa fb
          generalize ((wr.setCell ⟨blk, off + iN, none⟩ (enc y)).setCell ⟨blk, off + jN, none⟩ (enc x)).drew = w3 at S3 ⊢
          clear ea ec
          go_wp2
          go_roundw
          case rel => exact ⟨k + 1, swp dk k (k + 1), by go_num, by omega, by omega, HU2, S3⟩
          case measure => simp [intOf]; omega
        · have hkz : ¬ (k : Int) < (i : Int) - 1 := by omega
          have hkz2 : ¬ (k : Int) + 1 < (i : Int) := by omega
          have hki' : k = i - 1 := by omega
          have HE : Hid (PermIn a b d dk ∧ SortedIn (Sb.prB (ltOf cf) ix) a b dk) := Lib.hid (by
            have u := HU.out
            refine ⟨u.perm, Sb.one_left HO.out HT.out.right HT.out.lr (by rw [← HM.out]; exact hi1) hi3 (by rw [← HM.out]; exact HH.out.yes) HH.out.no (fun t h1 h2 => u.lo t h1 (by omega)) (by rw [← hki']; exact u.at') (fun t h1 => u.hi t (by omega))⟩)
          clear HU HH
          go_wp2
          go_end0
          exact ⟨rfl, dk, HE.out.1, HE.out.2, SK.out⟩
set_option maxHeartbeats 4000000 in
theorem Sb.merge_right (enc : α → Value) (cf : α → α → Int) (ix : α → Nat) (hO : SWO (ltOf cf)) (g : Nat) (cb : Array Value) (blk off cap a m : Nat) (d0 d : Array α) (w0 w : World)
    (eg : ∀ args w, (callFunc g args).run Tryz.prog w = .ok (.enter g args) w) (hcmp : CmpLays1 Tryz.prog g cb enc cf blk off d0.size w0) (R : Row1 enc w0 blk off d0) (hs : d0.size = d.size) (S : SW enc w0 blk off d w) (H : Sb.Two (ltOf cf) ix d a m (m + 1)) (hma : m ≠ a + 1) (hsz : d.size < 4611686018427387904) :
    Calls Tryz.prog 127 #[.slice (some ⟨blk, off, none⟩) d.size cap, .int .i64 a, .int .i64 m, .int .i64 ((m + 1 : Nat) : Int), .func (.func g) #[] cb] w (Sb.MerP enc (ltOf cf) ix w0 blk off d a (m + 1)) := by
  have mixed := Sb.laysIns.mixed
  have hcl0 := R.hO.cells
  simp only [Value.cells] at hcl0
  have hst := R.hO.store Tryz.prog
  have HS : Hid (d0.size = d.size) := Lib.hid hs
  have S0 : Aside (SW enc w0 blk off d w) := S
  have HC : Aside _ := hcmp
  have HT : Hid (Sb.Two (ltOf cf) ix d a m (m + 1)) := Lib.hid H
  have HO : Hid (SWO (ltOf cf)) := Lib.hid hO
  have ham := H.am
  have hbd := H.le
  obtain ⟨b, hb⟩ : ∃ b, b = m + 1 := ⟨_, rfl⟩
  have HM : Hid (b = m + 1) := Lib.hid hb
  have hq0 : ((m : Int) - (a : Int) == 1) = false := by simp; omega
  have hq : ((b : Int) - (m : Int) == 1) = true := by simp; omega
  have hmb : m < b := by omega
  have hbd' : b ≤ d.size := by omega
  rw [← hb]
  clear S hs H hO hcmp hb hma
  go_enter Tryz.func127, Tryz.ntmps127
  go_wp2
  go_loopw [14, 15] (fun vi vj wr => ∃ (i j : Nat), vi = .int .i64 i ∧ vj = .int .i64 j ∧ Hid (Sb.Half (fun h => !ltOf cf d[m]! d[h]!) a m i j) ∧ Aside (SW enc w0 blk off d wr)) (fun vi vj _ => (intOf vj - intOf vi).toNat)
  case atStart => exact ⟨a, m, rfl, rfl, Lib.hid (Sb.Half.start _ (by omega)), S0⟩
  case round =>
    clear S0
    obtain ⟨i, j, rfl, rfl, HH, SJ⟩ := hrel
    have hi1 := HH.out.le1
    have hi2 := HH.out.le2
    have hi3 := HH.out.le3
    by_cases hlt : i < j
    · obtain ⟨h, hh⟩ : ∃ h : Nat, h = (i + j) / 2 := ⟨_, rfl⟩
      have hm2 : ((i : Int) + (j : Int)) / 2 = (h : Int) := by omega
      have h1 : i ≤ h := by omega
      have h2 : h < j := by omega
      clear hh
      have pa : (0 : Int) ≤ (h : Int) := by omega
      have ba : (h : Int) < (d.size : Int) := by omega
      have pb : (0 : Int) ≤ (m : Int) := by omega
      have bb : (m : Int) < (d.size : Int) := by omega
      obtain ⟨x, hx⟩ : ∃ x, x = d[m]! := ⟨_, rfl⟩
      obtain ⟨y, hy⟩ : ∃ x, x = d[h]! := ⟨_, rfl⟩
      have la := SJ.out.cl R HS.out.symm m (by omega)
      have lb := SJ.out.cl R HS.out.symm h (by omega)
      rw [← hx] at la
      rw [← hy] at lb
      have hc := SJ.out.cmp HC.out HS.out.symm x y
      cases hlv : ltOf cf d[m]! d[h]! with
      | true =>
        have hd1 : decide (cf x y < 0) = true := by rw [hx, hy]; exact hlv
        have HH2 : Hid (Sb.Half (fun h => !ltOf cf d[m]! d[h]!) a m i h) := Lib.hid (HH.out.down h1 h2 (by simp [hlv]))
        clear hx hy hlv HH
        go_wp2_with fail
        go_quiet_grown (first | (go_at_fn g; refine Calls.grown_of (hc _ _)))
        have S2 : Aside (SW enc w0 blk off d (grow (wr.drewN nq) osq)) := SJ.out.grown nq osq
        clear la lb hc SJ
        generalize grow (wr.drewN nq) osq = w2 at S2 ⊢
        go_wp2
        go_roundw
        case rel => exact ⟨i, h, rfl, rfl, HH2, S2⟩
        case measure => simp [intOf]; omega
      | false =>
        have hd1 : decide (cf x y < 0) = false := by rw [hx, hy]; exact hlv
        have HH2 : Hid (Sb.Half (fun h => !ltOf cf d[m]! d[h]!) a m (h + 1) j) := Lib.hid (HH.out.up h1 h2 (by simp [hlv]))
        clear hx hy hlv HH
        go_wp2_with fail
        go_quiet_grown (first | (go_at_fn g; refine Calls.grown_of (hc _ _)))
        have S2 : Aside (SW enc w0 blk off d (grow (wr.drewN nq) osq)) := SJ.out.grown nq osq
        clear la lb hc SJ
        generalize grow (wr.drewN nq) osq = w2 at S2 ⊢
        go_wp2
        go_roundw
        case rel => exact ⟨h + 1, j, by go_num, rfl, HH2, S2⟩
        case measure => simp [intOf]; omega
    · obtain rfl : i = j := by omega
      have HU0 : Hid (Sb.Down d d a m m) := Lib.hid ⟨permIn_refl _ _ _, fun t h1 h2 => absurd h1 (by omega), rfl, fun _ _ => rfl⟩
      have hnl : ¬ (i : Int) < (i : Int) := by omega
      go_wp2
      go_loopw [17] (fun vk wr => ∃ (k : Nat) (dk : Array α), vk = .int .i64 k ∧ i ≤ k ∧ k ≤ m ∧ Hid (Sb.Down d dk a m k) ∧ Aside (SW enc w0 blk off dk wr)) (fun vk _ => (intOf vk).toNat)
      case atStart => exact ⟨m, d, rfl, by omega, Nat.le_refl _, HU0, SJ⟩
      case round =>
        clear SJ HU0
        obtain ⟨k, dk, rfl, hk1, hk2, HU, SK⟩ := hrel
        have hdk : Hid (dk.size = d.size) := Lib.hid HU.out.perm.1
        by_cases hki : i < k
        · have hkz : (i : Int) < (k : Int) := by omega
          obtain ⟨kp, hkp⟩ : ∃ q, q + 1 = k := ⟨k - 1, by omega⟩
          have zkp : (k : Int) = (kp : Int) + 1 := by omega
          obtain ⟨iN, hiN⟩ : ∃ q, q = k := ⟨_, rfl⟩
          obtain ⟨jN, hjN⟩ : ∃ q, q = k - 1 := ⟨_, rfl⟩
          have ea : ((kp : Int) + 1).toNat = iN := by omega
          have pa : (0 : Int) ≤ (kp : Int) + 1 := by omega
          have ba : (kp : Int) + 1 < (d.size : Int) := by omega
          have ra : IntKind.i64.wrap ((kp : Int) + 1) = (kp : Int) + 1 := by rw [IntKind.wrap_i64]; omega
          have ec : ((kp : Int)).toNat = jN := by omega
          have pc : (0 : Int) ≤ (kp : Int) := by omega
          have bc : (kp : Int) < (d.size : Int) := by omega
          have rc : IntKind.i64.wrap ((kp : Int)) = (kp : Int) := by rw [IntKind.wrap_i64]; omega
          obtain ⟨x, hx⟩ : ∃ x, x = dk[k]! := ⟨_, rfl⟩
          obtain ⟨y, hy⟩ : ∃ x, x = dk[k - 1]! := ⟨_, rfl⟩
          have hz1 : dk.size = d0.size := hdk.out.trans HS.out.symm
          have h1 : k < dk.size := by rw [hdk.out]; omega
          have h2 : k - 1 < dk.size := by rw [hdk.out]; omega
          have S3 : Aside (SW enc w0 blk off (swp dk k (k - 1)) ((wr.setCell ⟨blk, off + iN, none⟩ (enc y)).setCell ⟨blk, off + jN, none⟩ (enc x)).drew) := by rw [hiN, hjN, hx, hy]; exact SK.out.swapped R k (k - 1) h1 h2
          have ca := SK.out.c1 R hz1 k h1
          have cb' := SK.out.c1 R hz1 (k - 1) h2
          have fa := SK.out.f1 R hz1 k h1
          have fb := SK.out.f1 R hz1 (k - 1) h2
          obtain ⟨u, cc⟩ := SK.out.c2 R hz1 k (k - 1) h1 h2 (enc y)
          have HU2 : Hid (Sb.Down d (swp dk k (k - 1)) a m (k - 1)) := Lib.hid (HU.out.step (by omega) hk2 (by rw [← HM.out]; omega))
          have hkz' : (i : Int) < (kp : Int) + 1 := by omega
          have hkd : Hid ((kp : Int) = ((k - 1 : Nat) : Int)) := Lib.hid (by omega)
          rw [← hjN, ← hiN] at cc
          rw [← hx, ← hiN] at ca
          rw [← hy, ← hjN] at cb'
          rw [← hiN] at fa
          rw [← hjN] at fb
          clear SK hx hy hiN hjN HU hz1 h1 h2 hdk
          go_wp2_with fail
          go_big_region_o
          clear ca cb' cc fa fb
          generalize ((wr.setCell ⟨blk, off + iN, none⟩ (enc y)).setCell ⟨blk, off + jN, none⟩ (enc x)).drew = w3 at S3 ⊢
          clear ea ec
          go_wp2
          go_roundw
          case rel => exact ⟨k - 1, swp dk k (k - 1), by rw [← hkd.out], by omega, by omega, HU2, S3⟩
          case measure => simp [intOf]; omega
        · have hkz : ¬ (i : Int) < (k : Int) := by omega
          obtain rfl : i = k := by omega
          have HE : Hid (PermIn a b d dk ∧ SortedIn (Sb.prB (ltOf cf) ix) a b dk) := Lib.hid (by
            have u := HU.out
            rw [HM.out]
            refine ⟨u.perm, Sb.one_right HO.out HT.out.left HT.out.lr hi1 hi3 ?_ ?_ u.hi u.at' u.lo⟩
            · rcases HH.out.yes with h | h
              · exact .inl h
              · exact .inr (by simpa using h)
            · rcases HH.out.no with h | h
              · exact .inl h
              · exact .inr (by simpa using h))
          clear HU HH
          go_wp2
          go_end0
          exact ⟨rfl, dk, HE.out.1, HE.out.2, SK.out⟩
end Go.Proofs.YtkbncdcphohmiaaGreatDoor
