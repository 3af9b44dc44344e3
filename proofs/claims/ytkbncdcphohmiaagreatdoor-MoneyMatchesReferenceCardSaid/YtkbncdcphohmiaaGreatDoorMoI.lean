/- The library's stable sort at slices of int: merging, sorting. -/
import Derived.Test.YtkbncdcphohmiaaGreatDoorMoH
import Derived.Deep.DeepCutAuto
set_option linter.unusedSimpArgs false
set_option linter.unusedVariables false
namespace Go.Proofs.YtkbncdcphohmiaaGreatDoor
open Go.Shelf Go.RowKit Go.Lib Go.Sort
set_option maxRecDepth 100000
variable {α : Type} [Inhabited α]

/-- The halves behind the rotation. -/
structure Sb.Parts (lt : α → α → Bool) (ix : α → Nat) (d : Array α) (a s mid e b : Nat) : Prop where
  p1 : SortedIn (Sb.prB lt ix) a s d
  p2 : SortedIn (Sb.prB lt ix) s mid d
  l1 : Sb.LR ix a s mid d
  p3 : SortedIn (Sb.prB lt ix) mid e d
  p4 : SortedIn (Sb.prB lt ix) e b d
  l2 : Sb.LR ix mid e b d
  cr : Sb.Cross (Sb.prB lt ix) a mid b d
  ale : a ≤ s
  sm : s ≤ mid
  me : mid ≤ e
  eb : e ≤ b
  bd : b ≤ d.size
theorem Sb.Parts.left {lt : α → α → Bool} {ix : α → Nat} {d : Array α} {a s mid e b : Nat} (h : Sb.Parts lt ix d a s mid e b) (hs : s ≤ a ∨ mid ≤ s) : PermIn a mid d d ∧ SortedIn (Sb.prB lt ix) a mid d := ⟨permIn_refl _ _ _, fun i j hi hij hj => by
  rcases hs with hs | hs
  · exact h.p2 i j (by omega) hij hj
  · exact h.p1 i j hi hij (by omega)⟩
theorem Sb.Parts.two1 {lt : α → α → Bool} {ix : α → Nat} {d : Array α} {a s mid e b : Nat} (h : Sb.Parts lt ix d a s mid e b) (h1 : a < s) (h2 : s < mid) : Sb.Two lt ix d a s mid := ⟨h.p1, h.p2, h.l1, h1, h2, by have := h.bd; have := h.me; have := h.eb; omega⟩
/-- Behind the first half's merge. -/
structure Sb.Behind (lt : α → α → Bool) (ix : α → Nat) (d d1 : Array α) (a mid e b : Nat) : Prop where
  perm : PermIn a b d d1
  p0 : SortedIn (Sb.prB lt ix) a mid d1
  p3 : SortedIn (Sb.prB lt ix) mid e d1
  p4 : SortedIn (Sb.prB lt ix) e b d1
  l2 : Sb.LR ix mid e b d1
  cr : Sb.Cross (Sb.prB lt ix) a mid b d1
  am : a ≤ mid
  me : mid ≤ e
  eb : e ≤ b
  bd : b ≤ d1.size
theorem Sb.Parts.behind {lt : α → α → Bool} {ix : α → Nat} {d d1 : Array α} {a s mid e b : Nat} (h : Sb.Parts lt ix d a s mid e b) (h1 : PermIn a mid d d1) (h2 : SortedIn (Sb.prB lt ix) a mid d1) : Sb.Behind lt ix d d1 a mid e b := by
  have b1 := h.ale
  have b2 := h.sm
  have b3 := h.me
  have b4 := h.eb
  have b5 := h.bd
  refine ⟨permIn_mono _ _ _ _ _ _ (Nat.le_refl _) (by omega) b5 h1, h2, Sb.sorted_out h.p3 h1 (.inr (Nat.le_refl _)), Sb.sorted_out h.p4 h1 (.inr b3), Sb.lr_out h.l2 h1 (.inr (Nat.le_refl _)), h.cr.perm b5 (by omega) h1, by omega, b3, b4, by rw [h1.1]; exact b5⟩
theorem Sb.Behind.right {lt : α → α → Bool} {ix : α → Nat} {d d1 : Array α} {a mid e b : Nat} (h : Sb.Behind lt ix d d1 a mid e b) (hs : e ≤ mid ∨ b ≤ e) : PermIn mid b d1 d1 ∧ SortedIn (Sb.prB lt ix) mid b d1 := ⟨permIn_refl _ _ _, fun i j hi hij hj => by
  rcases hs with hs | hs
  · exact h.p4 i j (by omega) hij hj
  · exact h.p3 i j hi hij (by omega)⟩
theorem Sb.Behind.two2 {lt : α → α → Bool} {ix : α → Nat} {d d1 : Array α} {a mid e b : Nat} (h : Sb.Behind lt ix d d1 a mid e b) (h1 : mid < e) (h2 : e < b) : Sb.Two lt ix d1 mid e b := ⟨h.p3, h.p4, h.l2, h1, h2, h.bd⟩
theorem Sb.Behind.fin {lt : α → α → Bool} {ix : α → Nat} {d d1 d2 : Array α} {a mid e b : Nat} (h : Sb.Behind lt ix d d1 a mid e b) (h1 : PermIn mid b d1 d2) (h2 : SortedIn (Sb.prB lt ix) mid b d2) : PermIn a b d d2 ∧ SortedIn (Sb.prB lt ix) a b d2 := by
  have b1 := h.am
  have b3 := h.me
  have b4 := h.eb
  refine ⟨permIn_trans _ _ _ _ _ h.perm (permIn_mono _ _ _ _ _ _ b1 (Nat.le_refl _) h.bd h1), (h.cr.perm' h.bd h1).sorted (Sb.sorted_out h.p0 h1 (.inl (Nat.le_refl _))) h2⟩
/-- What the search by halves has found: how far the first half takes of the left part, and the second one of the right part. -/
theorem Sb.parts_of {lt : α → α → Bool} {ix : α → Nat} {d d' : Array α} {a m b mid lo hi s e : Nat} (hO : SWO lt) (H : Sb.Two lt ix d a m b) (hmid : mid = (a + b) / 2) (hlo : (lo = mid + m - b ∧ hi = mid ∧ mid < m) ∨ (lo = a ∧ hi = m ∧ m ≤ mid))
    (hh : Sb.Half (fun c => !lt d[mid + m - 1 - c]! d[c]!) lo hi s s) (he : e = mid + m - s) (hd : ∀ k, d'[k]! = Sb.rot s m e d k) (hp : PermIn a b d d') : Sb.Parts lt ix d' a s mid e b := by
  have h1 := hh.le1
  have h3 := hh.le3
  have am := H.am
  have mb := H.mb
  have bs := H.le
  have c1 : a ≤ s := by rcases hlo with ⟨r1, r2, r3⟩ | ⟨r1, r2, r3⟩ <;> omega
  have c2 : s ≤ m := by rcases hlo with ⟨r1, r2, r3⟩ | ⟨r1, r2, r3⟩ <;> omega
  have c3 : s ≤ mid := by rcases hlo with ⟨r1, r2, r3⟩ | ⟨r1, r2, r3⟩ <;> omega
  have c4 : e ≤ b := by rcases hlo with ⟨r1, r2, r3⟩ | ⟨r1, r2, r3⟩ <;> omega
  obtain ⟨q1, q2, q3, q4, q5, q6, q7⟩ := Sb.rotated (mid := mid) hO H.left H.right H.lr c1 c2 (by omega) c4 (by omega) hd (fun g1 g2 => by
    rcases hh.yes with h | h
    · rcases hlo with ⟨r1, r2, r3⟩ | ⟨r1, r2, r3⟩ <;> omega
    · have h' : lt d[mid + m - 1 - (s - 1)]! d[s - 1]! = false := by simpa using h
      rw [show mid + m - 1 - (s - 1) = e by omega] at h'
      exact Sb.le_of_not hO (H.lr (s - 1) e (by omega) (by omega) (by omega) (by omega)) h') (fun g1 g2 => by
    rcases hh.no with h | h
    · rcases hlo with ⟨r1, r2, r3⟩ | ⟨r1, r2, r3⟩ <;> omega
    · have h' : lt d[mid + m - 1 - s]! d[s]! = true := by simpa using h
      rw [show mid + m - 1 - s = e - 1 by omega] at h'
      exact Sb.le_of_lt hO h')
  exact ⟨q1, q2, q3, q4, q5, q6, q7, c1, c3, by omega, c4, by rw [hp.1]; exact bs⟩
theorem Sb.rot_none {m e s : Nat} (d : Array α) (h : m ≤ s ∨ e ≤ m) (h1 : s ≤ m) (h2 : m ≤ e) : ∀ k, d[k]! = Sb.rot s m e d k := fun k => by
  unfold Sb.rot
  split
  · rename_i hk
    rw [show k + (m - s) = k by omega]
  · split
    · rename_i h3 hk
      rw [show k - (e - m) = k by omega]
    · rfl
set_option maxHeartbeats 8000000 in
theorem Sb.merge_gen (enc : α → Value) (cf : α → α → Int) (ix : α → Nat) (hO : SWO (ltOf cf)) (g : Nat) (cb : Array Value) (blk off cap a m b : Nat) (d0 d : Array α) (w0 w : World)
    (eg : ∀ args w, (callFunc g args).run Tryz.prog w = .ok (.enter g args) w) (hcmp : CmpLays1 Tryz.prog g cb enc cf blk off d0.size w0) (R : Row1 enc w0 blk off d0) (hs : d0.size = d.size) (S : SW enc w0 blk off d w) (H : Sb.Two (ltOf cf) ix d a m b) (hsz : d.size < 4611686018427387904) (hma : m ≠ a + 1) (hbm : b ≠ m + 1)
    (ih : ∀ (a' m' b' : Nat) (d' : Array α) (v : World), b' - a' < b - a → d'.size = d.size → SW enc w0 blk off d' v → Sb.Two (ltOf cf) ix d' a' m' b' →
      Calls Tryz.prog 127 #[.slice (some ⟨blk, off, none⟩) d.size cap, .int .i64 a', .int .i64 m', .int .i64 b', .func (.func g) #[] cb] v (Sb.MerP enc (ltOf cf) ix w0 blk off d' a' b')) :
    Calls Tryz.prog 127 #[.slice (some ⟨blk, off, none⟩) d.size cap, .int .i64 a, .int .i64 m, .int .i64 b, .func (.func g) #[] cb] w (Sb.MerP enc (ltOf cf) ix w0 blk off d a b) := by
  have mixed := Sb.laysIns.mixed
  have hcl0 := R.hO.cells
  simp only [Value.cells] at hcl0
  have hst := R.hO.store Tryz.prog
  have HS : Hid (d0.size = d.size) := Lib.hid hs
  have S0 : Aside (SW enc w0 blk off d w) := S
  have HC : Aside _ := hcmp
  have HT : Hid (Sb.Two (ltOf cf) ix d a m b) := Lib.hid H
  have HO : Hid (SWO (ltOf cf)) := Lib.hid hO
  have IH := Lib.hid ih
  have CR : Hid (∀ (s e : Nat) (v : World), s < m → m < e → e ≤ b → SW enc w0 blk off d v → Calls Tryz.prog 161 #[.slice (some ⟨blk, off, none⟩) d.size cap, .int .i64 s, .int .i64 m, .int .i64 e, .func (.func g) #[] cb] v (Sb.RotP enc w0 blk off d s m e)) :=
    Lib.hid (fun s e v h1 h2 h3 hv => Sb.rotate_any enc _ blk off cap s m e d0 d w0 v R hs hv h1 h2 (Nat.le_trans h3 H.le) hsz)
  have ham := H.am
  have hmb := H.mb
  have hbd := H.le
  obtain ⟨mid, hmid⟩ : ∃ k, k = (a + b) / 2 := ⟨_, rfl⟩
  obtain ⟨n, hn⟩ : ∃ k, k = mid + m := ⟨_, rfl⟩
  obtain ⟨p, hp⟩ : ∃ k, k = mid + m - 1 := ⟨_, rfl⟩
  have HMI := Lib.hid hmid
  have HN := Lib.hid hn
  have HP := Lib.hid hp
  have hq0 : ((m : Int) - (a : Int) == 1) = false := by simp; omega
  have hq1 : ((b : Int) - (m : Int) == 1) = false := by simp; omega
  have e1 : ((a : Int) + (b : Int)) / 2 = (mid : Int) := by omega
  have e2 : (mid : Int) + (m : Int) = (n : Int) := by omega
  have e3 : (n : Int) - 1 = (p : Int) := by omega
  have hmid1 : a < mid := by omega
  have hmid2 : mid < b := by omega
  have hn1 : n ≤ 2 * d.size := by omega
  have hn2 : b ≤ n + d.size := by omega
  have hn3 : 1 ≤ n := by omega
  clear S hs H hO hcmp hmid hp hn ih hma hbm
  go_enter Tryz.func127, Tryz.ntmps127
  go_upto_if 140 with (fail)
  go_cut [20, 21] (fun vi vj wr => ∃ (lo hi : Nat), vi = .int .i64 lo ∧ vj = .int .i64 hi ∧ Hid ((lo = mid + m - b ∧ hi = mid ∧ mid < m) ∨ (lo = a ∧ hi = m ∧ m ≤ mid)) ∧ Aside (SW enc w0 blk off d wr))
  case first =>
    by_cases hgt : mid < m
    · have hgz : (mid : Int) < (m : Int) := by omega
      obtain ⟨lo, hlo⟩ : ∃ k, k = mid + m - b := ⟨_, rfl⟩
      have HL : Hid (lo = mid + m - b) := Lib.hid hlo
      have e4 : (n : Int) - (b : Int) = (lo : Int) := by have := HN.out; have := HMI.out; omega
      clear hlo
      go_wp2
      go_meet
      case rel => exact ⟨lo, mid, rfl, rfl, Lib.hid (.inl ⟨HL.out, rfl, hgt⟩), S0⟩
    · have hgz : ¬ (mid : Int) < (m : Int) := by omega
      go_wp2
      go_meet
      case rel => exact ⟨a, m, rfl, rfl, Lib.hid (.inr ⟨rfl, rfl, by omega⟩), S0⟩
  case rest =>
    clear S0
    obtain ⟨lo, hi, rfl, rfl, HLO, SJ0⟩ := hcut
    have hlo1 : lo ≤ hi := by have := HMI.out; rcases HLO.out with ⟨r1, r2, r3⟩ | ⟨r1, r2, r3⟩ <;> omega
    have hlo2 : hi ≤ d.size := by have := HMI.out; rcases HLO.out with ⟨r1, r2, r3⟩ | ⟨r1, r2, r3⟩ <;> omega
    have hlo3 : hi ≤ p + 1 ∧ p < lo + d.size ∧ hi ≤ n := by have := HMI.out; have := HP.out; have := HN.out; rcases HLO.out with ⟨r1, r2, r3⟩ | ⟨r1, r2, r3⟩ <;> omega
    obtain ⟨hp1, hp2, hp3⟩ := hlo3
    go_wp2
    go_loopw [20, 21] (fun vi vj wr => ∃ (i j : Nat), vi = .int .i64 i ∧ vj = .int .i64 j ∧ Hid (Sb.Half (fun c => !ltOf cf d[mid + m - 1 - c]! d[c]!) lo hi i j) ∧ Aside (SW enc w0 blk off d wr)) (fun vi vj _ => (intOf vj - intOf vi).toNat)
    case atStart => exact ⟨lo, hi, rfl, rfl, Lib.hid (Sb.Half.start _ hlo1), SJ0⟩
    case round =>
      clear SJ0
      obtain ⟨i, j, rfl, rfl, HH, SJ⟩ := hrel
      have hi1 := HH.out.le1
      have hi2 := HH.out.le2
      have hi3 := HH.out.le3
      by_cases hlt : i < j
      · obtain ⟨h, hh⟩ : ∃ h : Nat, h = (i + j) / 2 := ⟨_, rfl⟩
        have hm2 : ((i : Int) + (j : Int)) / 2 = (h : Int) := by omega
        have h1 : i ≤ h := by omega
        have h2 : h < j := by omega
        clear hh
        obtain ⟨q, hq⟩ : ∃ k, k = p - h := ⟨_, rfl⟩
        have HQ : Hid (q = mid + m - 1 - h) := Lib.hid (by rw [hq, HP.out])
        have e5 : (p : Int) - (h : Int) = (q : Int) := by omega
        have e6 : IntKind.i64.wrap (q : Int) = (q : Int) := by rw [IntKind.wrap_i64]; omega
        have hqd : q < d.size := by omega
        have pa : (0 : Int) ≤ (h : Int) := by omega
        have ba : (h : Int) < (d.size : Int) := by omega
        have pb : (0 : Int) ≤ (q : Int) := by omega
        have bb : (q : Int) < (d.size : Int) := by omega
        obtain ⟨x, hx⟩ : ∃ x, x = d[q]! := ⟨_, rfl⟩
        obtain ⟨y, hy⟩ : ∃ x, x = d[h]! := ⟨_, rfl⟩
        have la := SJ.out.cl R HS.out.symm q hqd
        have lb := SJ.out.cl R HS.out.symm h (by omega)
        rw [← hx] at la
        rw [← hy] at lb
        have hc := SJ.out.cmp HC.out HS.out.symm x y
        cases hlv : ltOf cf d[q]! d[h]! with
        | true =>
          have hd1 : decide (cf x y < 0) = true := by rw [hx, hy]; exact hlv
          have HH2 : Hid (Sb.Half (fun c => !ltOf cf d[mid + m - 1 - c]! d[c]!) lo hi i h) := Lib.hid (HH.out.down h1 h2 (by rw [← HQ.out, hlv]; rfl))
          clear hx hy hlv HH hq
          go_wp2_with fail
          go_quiet_grown (first | (go_at_fn g; refine Calls.grown_of (hc _ _)))
          have S2 : Aside (SW enc w0 blk off d (grow (wr.drewN nq) osq)) := SJ.out.grown nq osq
          clear la lb hc SJ
          generalize grow (wr.drewN nq) osq = w2 at S2 ⊢
          go_wp2
          go_roundw
          case rel => exact ⟨i, h, rfl, rfl, HH2, S2⟩
          case measure => simp [intOf]; omega
        | false =>
          have hd1 : decide (cf x y < 0) = false := by rw [hx, hy]; exact hlv
          have HH2 : Hid (Sb.Half (fun c => !ltOf cf d[mid + m - 1 - c]! d[c]!) lo hi (h + 1) j) := Lib.hid (HH.out.up h1 h2 (by rw [← HQ.out, hlv]; rfl))
          clear hx hy hlv HH hq
          go_wp2_with fail
          go_quiet_grown (first | (go_at_fn g; refine Calls.grown_of (hc _ _)))
          have S2 : Aside (SW enc w0 blk off d (grow (wr.drewN nq) osq)) := SJ.out.grown nq osq
          clear la lb hc SJ
          generalize grow (wr.drewN nq) osq = w2 at S2 ⊢
          go_wp2
          go_roundw
          case rel => exact ⟨h + 1, j, by go_num, rfl, HH2, S2⟩
          case measure => simp [intOf]; omega
      · obtain rfl : i = j := by omega
        obtain ⟨e, he⟩ : ∃ e, e = n - i := ⟨_, rfl⟩
        have HE : Hid (e = mid + m - i) := Lib.hid (by rw [he, HN.out])
        have e7 : (n : Int) - (i : Int) = (e : Int) := by omega
        have hnl : ¬ (i : Int) < (i : Int) := by omega
        have HPT : Hid (∀ d', (∀ k, d'[k]! = Sb.rot i m e d k) → PermIn a b d d' → Sb.Parts (ltOf cf) ix d' a i mid e b) := Lib.hid (fun d' h1 h2 => Sb.parts_of HO.out HT.out HMI.out HLO.out HH.out HE.out h1 h2)
        have hP0 := HMI.out
        have hP1 : a ≤ i ∧ i ≤ m ∧ i ≤ mid ∧ m ≤ e ∧ mid ≤ e ∧ e ≤ b := by rcases HLO.out with ⟨r1, r2, r3⟩ | ⟨r1, r2, r3⟩ <;> omega
        obtain ⟨b1, b2, b3, b4, b5, b6⟩ := hP1
        have hlink : (i = m ↔ e = mid) ∧ (e = m ↔ i = mid) := by have := HE.out; omega
        have HLK := Lib.hid hlink
        have HE2 : Hid (e ≤ d.size ∧ n = e + i) := Lib.hid (by omega)
        clear hlink he hP0 HH
        by_cases p1 : i < m
        · by_cases p2 : i < mid
          · have p3 : m < e := by have := HLK.out; omega
            have p4 : mid < e := by have := HLK.out; omega
            by_cases p5 : a < i
            · by_cases p6 : e < b
              · have f1 : ((i : Nat) : Int) < ((m : Nat) : Int) := by omega
                have f2 : ((m : Nat) : Int) < ((e : Nat) : Int) := by omega
                have f3 : ((a : Nat) : Int) < ((i : Nat) : Int) := by omega
                have f4 : ((i : Nat) : Int) < ((mid : Nat) : Int) := by omega
                have f5 : ((mid : Nat) : Int) < ((e : Nat) : Int) := by omega
                have f6 : ((e : Nat) : Int) < ((b : Nat) : Int) := by omega
                go_wp2_with fail
                refine (CR.out i e _ (by omega) (by omega) b6 SJ.out).mono ?_
                rintro e0 w2 ⟨rfl, d', q1, q2, q3⟩
                have q2' := permIn_mono _ _ _ _ a b b1 b6 hbd q2
                have HPA := Lib.hid (HPT.out d' q1 q2')
                have HPE := Lib.hid q2'
                have S2 : Aside (SW enc w0 blk off d' w2) := q3
                clear q1 q2 q2' q3 SJ
                have HZ : Hid (d'.size = d.size) := Lib.hid HPE.out.1
                have T1 := Lib.hid (HPA.out.two1 (by omega) (by omega))
                have C1 := Lib.hid (fun v hv => IH.out a i mid d' v (by omega) HZ.out hv T1.out)
                go_wp2_with fail
                refine (C1.out _ S2.out).mono ?_
                rintro e0 w3 ⟨rfl, d1, q1, q2, q3⟩
                have HB := Lib.hid (HPA.out.behind q1 q2)
                have S3 : Aside (SW enc w0 blk off d1 w3) := q3
                clear q1 q2 q3 C1 T1 S2
                have HZ1 : Hid (d1.size = d.size) := Lib.hid (HB.out.perm.1.trans HZ.out)
                have T2 := Lib.hid (HB.out.two2 (by omega) (by omega))
                have C2 := Lib.hid (fun v hv => IH.out mid e b d1 v (by omega) HZ1.out hv T2.out)
                go_wp2_with fail
                refine (C2.out _ S3.out).mono ?_
                rintro e0 w4 ⟨rfl, d2, q1, q2, q3⟩
                have HF := Lib.hid (HB.out.fin q1 q2)
                have S4 : Aside (SW enc w0 blk off d2 w4) := q3
                clear q1 q2 q3 C2 T2 S3
                go_wp2
                go_end0
                exact ⟨rfl, d2, permIn_trans _ _ _ _ _ HPE.out HF.out.1, HF.out.2, S4.out⟩
              · have f1 : ((i : Nat) : Int) < ((m : Nat) : Int) := by omega
                have f2 : ((m : Nat) : Int) < ((e : Nat) : Int) := by omega
                have f3 : ((a : Nat) : Int) < ((i : Nat) : Int) := by omega
                have f4 : ((i : Nat) : Int) < ((mid : Nat) : Int) := by omega
                have f5 : ((mid : Nat) : Int) < ((e : Nat) : Int) := by omega
                have f6 : ¬ ((e : Nat) : Int) < ((b : Nat) : Int) := by omega
                go_wp2_with fail
                refine (CR.out i e _ (by omega) (by omega) b6 SJ.out).mono ?_
                rintro e0 w2 ⟨rfl, d', q1, q2, q3⟩
                have q2' := permIn_mono _ _ _ _ a b b1 b6 hbd q2
                have HPA := Lib.hid (HPT.out d' q1 q2')
                have HPE := Lib.hid q2'
                have S2 : Aside (SW enc w0 blk off d' w2) := q3
                clear q1 q2 q2' q3 SJ
                have HZ : Hid (d'.size = d.size) := Lib.hid HPE.out.1
                have T1 := Lib.hid (HPA.out.two1 (by omega) (by omega))
                have C1 := Lib.hid (fun v hv => IH.out a i mid d' v (by omega) HZ.out hv T1.out)
                go_wp2_with fail
                refine (C1.out _ S2.out).mono ?_
                rintro e0 w3 ⟨rfl, d1, q1, q2, q3⟩
                have HB := Lib.hid (HPA.out.behind q1 q2)
                have S3 : Aside (SW enc w0 blk off d1 w3) := q3
                clear q1 q2 q3 C1 T1 S2
                have HZ1 : Hid (d1.size = d.size) := Lib.hid (HB.out.perm.1.trans HZ.out)
                have HB2 := HB.out.right (by omega)
                have HF := Lib.hid (HB.out.fin HB2.1 HB2.2)
                clear HB2
                go_wp2
                go_end0
                exact ⟨rfl, d1, permIn_trans _ _ _ _ _ HPE.out HF.out.1, HF.out.2, S3.out⟩
            · by_cases p6 : e < b
              · have f1 : ((i : Nat) : Int) < ((m : Nat) : Int) := by omega
                have f2 : ((m : Nat) : Int) < ((e : Nat) : Int) := by omega
                have f3 : ¬ ((a : Nat) : Int) < ((i : Nat) : Int) := by omega
                have f4 : ((i : Nat) : Int) < ((mid : Nat) : Int) := by omega
                have f5 : ((mid : Nat) : Int) < ((e : Nat) : Int) := by omega
                have f6 : ((e : Nat) : Int) < ((b : Nat) : Int) := by omega
                go_wp2_with fail
                refine (CR.out i e _ (by omega) (by omega) b6 SJ.out).mono ?_
                rintro e0 w2 ⟨rfl, d', q1, q2, q3⟩
                have q2' := permIn_mono _ _ _ _ a b b1 b6 hbd q2
                have HPA := Lib.hid (HPT.out d' q1 q2')
                have HPE := Lib.hid q2'
                have S2 : Aside (SW enc w0 blk off d' w2) := q3
                clear q1 q2 q2' q3 SJ
                have HZ : Hid (d'.size = d.size) := Lib.hid HPE.out.1
                have HB0 := HPA.out.left (by omega)
                have HB1 := Lib.hid (HPA.out.behind HB0.1 HB0.2)
                obtain ⟨d1, hd1⟩ : ∃ d1, d1 = d' := ⟨_, rfl⟩
                have HB : Hid (Sb.Behind (ltOf cf) ix d' d1 a mid e b) := Lib.hid (by rw [hd1]; exact HB1.out)
                have S3 : Aside (SW enc w0 blk off d1 w2) := by rw [hd1]; exact S2
                clear hd1 HB0 HB1 S2
                have HZ1 : Hid (d1.size = d.size) := Lib.hid (HB.out.perm.1.trans HZ.out)
                have T2 := Lib.hid (HB.out.two2 (by omega) (by omega))
                have C2 := Lib.hid (fun v hv => IH.out mid e b d1 v (by omega) HZ1.out hv T2.out)
                go_wp2_with fail
                refine (C2.out _ S3.out).mono ?_
                rintro e0 w4 ⟨rfl, d2, q1, q2, q3⟩
                have HF := Lib.hid (HB.out.fin q1 q2)
                have S4 : Aside (SW enc w0 blk off d2 w4) := q3
                clear q1 q2 q3 C2 T2 S3
                go_wp2
                go_end0
                exact ⟨rfl, d2, permIn_trans _ _ _ _ _ HPE.out HF.out.1, HF.out.2, S4.out⟩
              · have f1 : ((i : Nat) : Int) < ((m : Nat) : Int) := by omega
                have f2 : ((m : Nat) : Int) < ((e : Nat) : Int) := by omega
                have f3 : ¬ ((a : Nat) : Int) < ((i : Nat) : Int) := by omega
                have f4 : ((i : Nat) : Int) < ((mid : Nat) : Int) := by omega
                have f5 : ((mid : Nat) : Int) < ((e : Nat) : Int) := by omega
                have f6 : ¬ ((e : Nat) : Int) < ((b : Nat) : Int) := by omega
                go_wp2_with fail
                refine (CR.out i e _ (by omega) (by omega) b6 SJ.out).mono ?_
                rintro e0 w2 ⟨rfl, d', q1, q2, q3⟩
                have q2' := permIn_mono _ _ _ _ a b b1 b6 hbd q2
                have HPA := Lib.hid (HPT.out d' q1 q2')
                have HPE := Lib.hid q2'
                have S2 : Aside (SW enc w0 blk off d' w2) := q3
                clear q1 q2 q2' q3 SJ
                have HZ : Hid (d'.size = d.size) := Lib.hid HPE.out.1
                have HB0 := HPA.out.left (by omega)
                have HB1 := Lib.hid (HPA.out.behind HB0.1 HB0.2)
                obtain ⟨d1, hd1⟩ : ∃ d1, d1 = d' := ⟨_, rfl⟩
                have HB : Hid (Sb.Behind (ltOf cf) ix d' d1 a mid e b) := Lib.hid (by rw [hd1]; exact HB1.out)
                have S3 : Aside (SW enc w0 blk off d1 w2) := by rw [hd1]; exact S2
                clear hd1 HB0 HB1 S2
                have HZ1 : Hid (d1.size = d.size) := Lib.hid (HB.out.perm.1.trans HZ.out)
                have HB2 := HB.out.right (by omega)
                have HF := Lib.hid (HB.out.fin HB2.1 HB2.2)
                clear HB2
                go_wp2
                go_end0
                exact ⟨rfl, d1, permIn_trans _ _ _ _ _ HPE.out HF.out.1, HF.out.2, S3.out⟩
          · have p3 : e ≤ m := by have := HLK.out; omega
            have p4 : mid < e := by have := HLK.out; omega
            have p6 : e < b := by omega
            have f1 : ((i : Nat) : Int) < ((m : Nat) : Int) := by omega
            have f2 : ¬ ((m : Nat) : Int) < ((e : Nat) : Int) := by omega
            have p5 : a < i := by omega
            have f3 : ((a : Nat) : Int) < ((i : Nat) : Int) := by omega
            have f4 : ¬ ((i : Nat) : Int) < ((mid : Nat) : Int) := by omega
            have f5 : ((mid : Nat) : Int) < ((e : Nat) : Int) := by omega
            have f6 : ((e : Nat) : Int) < ((b : Nat) : Int) := by omega
            have HPE := Lib.hid (permIn_refl d a b)
            have HPA := Lib.hid (HPT.out d (Sb.rot_none d (by omega) b2 b4) HPE.out)
            obtain ⟨d', hd'⟩ : ∃ d', d' = d := ⟨_, rfl⟩
            rw [← hd'] at HPA
            have HPE2 : Hid (PermIn a b d d') := Lib.hid (by rw [hd']; exact HPE.out)
            have S2 : Aside (SW enc w0 blk off d' wr) := by rw [hd']; exact SJ
            clear hd' SJ HPE
            have HPE := HPE2
            clear HPE2
            have HZ : Hid (d'.size = d.size) := Lib.hid HPE.out.1
            have HB0 := HPA.out.left (by omega)
            have HB1 := Lib.hid (HPA.out.behind HB0.1 HB0.2)
            obtain ⟨d1, hd1⟩ : ∃ d1, d1 = d' := ⟨_, rfl⟩
            have HB : Hid (Sb.Behind (ltOf cf) ix d' d1 a mid e b) := Lib.hid (by rw [hd1]; exact HB1.out)
            have S3 : Aside (SW enc w0 blk off d1 wr) := by rw [hd1]; exact S2
            clear hd1 HB0 HB1 S2
            have HZ1 : Hid (d1.size = d.size) := Lib.hid (HB.out.perm.1.trans HZ.out)
            have T2 := Lib.hid (HB.out.two2 (by omega) (by omega))
            have C2 := Lib.hid (fun v hv => IH.out mid e b d1 v (by omega) HZ1.out hv T2.out)
            go_wp2_with fail
            refine (C2.out _ S3.out).mono ?_
            rintro e0 w4 ⟨rfl, d2, q1, q2, q3⟩
            have HF := Lib.hid (HB.out.fin q1 q2)
            have S4 : Aside (SW enc w0 blk off d2 w4) := q3
            clear q1 q2 q3 C2 T2 S3
            go_wp2
            go_end0
            exact ⟨rfl, d2, permIn_trans _ _ _ _ _ HPE.out HF.out.1, HF.out.2, S4.out⟩
        · by_cases p2 : i < mid
          · have p3 : e ≤ mid := by have := HLK.out; omega
            have p5 : a < i := by omega
            have f1 : ¬ ((i : Nat) : Int) < ((m : Nat) : Int) := by omega
            have f3 : ((a : Nat) : Int) < ((i : Nat) : Int) := by omega
            have f4 : ((i : Nat) : Int) < ((mid : Nat) : Int) := by omega
            have f5 : ¬ ((mid : Nat) : Int) < ((e : Nat) : Int) := by omega
            have HPE := Lib.hid (permIn_refl d a b)
            have HPA := Lib.hid (HPT.out d (Sb.rot_none d (by omega) b2 b4) HPE.out)
            obtain ⟨d', hd'⟩ : ∃ d', d' = d := ⟨_, rfl⟩
            rw [← hd'] at HPA
            have HPE2 : Hid (PermIn a b d d') := Lib.hid (by rw [hd']; exact HPE.out)
            have S2 : Aside (SW enc w0 blk off d' wr) := by rw [hd']; exact SJ
            clear hd' SJ HPE
            have HPE := HPE2
            clear HPE2
            have HZ : Hid (d'.size = d.size) := Lib.hid HPE.out.1
            have T1 := Lib.hid (HPA.out.two1 (by omega) (by omega))
            have C1 := Lib.hid (fun v hv => IH.out a i mid d' v (by omega) HZ.out hv T1.out)
            go_wp2_with fail
            refine (C1.out _ S2.out).mono ?_
            rintro e0 w3 ⟨rfl, d1, q1, q2, q3⟩
            have HB := Lib.hid (HPA.out.behind q1 q2)
            have S3 : Aside (SW enc w0 blk off d1 w3) := q3
            clear q1 q2 q3 C1 T1 S2
            have HZ1 : Hid (d1.size = d.size) := Lib.hid (HB.out.perm.1.trans HZ.out)
            have HB2 := HB.out.right (by omega)
            have HF := Lib.hid (HB.out.fin HB2.1 HB2.2)
            clear HB2
            go_wp2
            go_end0
            exact ⟨rfl, d1, permIn_trans _ _ _ _ _ HPE.out HF.out.1, HF.out.2, S3.out⟩
          · have p3 : e ≤ mid := by have := HLK.out; omega
            have p5 : a < i := by omega
            have f1 : ¬ ((i : Nat) : Int) < ((m : Nat) : Int) := by omega
            have f3 : ((a : Nat) : Int) < ((i : Nat) : Int) := by omega
            have f4 : ¬ ((i : Nat) : Int) < ((mid : Nat) : Int) := by omega
            have f5 : ¬ ((mid : Nat) : Int) < ((e : Nat) : Int) := by omega
            have HPE := Lib.hid (permIn_refl d a b)
            have HPA := Lib.hid (HPT.out d (Sb.rot_none d (by omega) b2 b4) HPE.out)
            obtain ⟨d', hd'⟩ : ∃ d', d' = d := ⟨_, rfl⟩
            rw [← hd'] at HPA
            have HPE2 : Hid (PermIn a b d d') := Lib.hid (by rw [hd']; exact HPE.out)
            have S2 : Aside (SW enc w0 blk off d' wr) := by rw [hd']; exact SJ
            clear hd' SJ HPE
            have HPE := HPE2
            clear HPE2
            have HZ : Hid (d'.size = d.size) := Lib.hid HPE.out.1
            have HB0 := HPA.out.left (by omega)
            have HB1 := Lib.hid (HPA.out.behind HB0.1 HB0.2)
            obtain ⟨d1, hd1⟩ : ∃ d1, d1 = d' := ⟨_, rfl⟩
            have HB : Hid (Sb.Behind (ltOf cf) ix d' d1 a mid e b) := Lib.hid (by rw [hd1]; exact HB1.out)
            have S3 : Aside (SW enc w0 blk off d1 wr) := by rw [hd1]; exact S2
            clear hd1 HB0 HB1 S2
            have HZ1 : Hid (d1.size = d.size) := Lib.hid (HB.out.perm.1.trans HZ.out)
            have HB2 := HB.out.right (by omega)
            have HF := Lib.hid (HB.out.fin HB2.1 HB2.2)
            clear HB2
            go_wp2
            go_end0
            exact ⟨rfl, d1, permIn_trans _ _ _ _ _ HPE.out HF.out.1, HF.out.2, S3.out⟩
end Go.Proofs.YtkbncdcphohmiaaGreatDoor
