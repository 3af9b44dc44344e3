/- Layer 9, the program's letters: a function that is ranged over. -/
import Derived.Test.YtkddpealobeleaaGreatDoorNmA
import Derived.Test.YtkddpealobeleaaGreatDoorNmL
import Derived.RangeFuncNested
import Derived.RangeFuncBound
import Derived.RangeFuncCalls
import Derived.RangeFuncLeaves
import Derived.Shelf.Abstract
import Derived.Shelf.RegionOpen
import Derived.WalkKit
import Derived.OwnWalkIn
import Derived.TacticsInMore
import Derived.LoopNIn
import Derived.LoopIn
import Derived.Below
import Derived.Lib.Hide
import Derived.Lib.QuietBelowIn
set_option linter.unusedSimpArgs false
set_option linter.unusedVariables false
namespace Go.Proofs.YtkddpealobeleaaGreatDoor
open Go.RowKit Go.Shelf
set_option maxRecDepth 100000
set_option maxHeartbeats 400000
attribute [local go_sem] Oper.semAt_some

theorem Nm.cell_lt {w : World} {a : Addr} {v : Value} (h : w.cell? a = some v) : a.block < w.heap.size := by
  refine Nat.lt_of_not_le fun hge => ?_
  simp [World.cell?, Array.getElem?_eq_none hge] at h
theorem Nm.cell_bt {w w' : World} {a : Addr} {v : Value} (h : w.cell? a = some v) (hb : Below w.heap.size w w') : w'.cell? a = some v := (hb.cell (Nm.cell_lt h)).trans h
theorem Nm.al (w : World) (o : Obj) : Below w.heap.size w (w.alloc o) := (Below.refl _ _).alloc (Nat.le_refl _) o
theorem Nm.Nb {w v u : World} (h : Below w.heap.size w v) (g : Below v.heap.size v u) : Below w.heap.size w u := h.trans (g.mono h.size)
theorem Nm.grown {a b : World} (h : Below a.heap.size a b) : a.grownBy b none := ⟨h.os, h.tape, h.output, h.size, fun i hi _ => h.block i hi⟩

/-- What a round is handed: a letter. -/
abbrev Ltr := { x : ByteArray // 1 ≤ x.size ∧ x.size ≤ 2 }
abbrev encL (x : Ltr) : Array Value := #[.string x.1]
def Nm.lts (xs : List Ltr) : List Nm.T := xs.map fun x => x.1.data.toList
/-- The alphabet of a script, as a block holds it. -/
def Nm.AlBox (W : World) (B : Nat) (wd al fi se : ByteArray) : Prop := W.heap[B]? = some (.cells #[.string wd, .string al, .string fi, .string se] 124 (0, 0))
structure Nm.AlOk (s : Nat) (al fi se : ByteArray) : Prop where
  al : al.data.toList = (Nm.ab s).al
  fi : fi.data.toList = (Nm.ab s).fi
  se : se.data.toList = (Nm.ab s).se

theorem Nm.letters_made (wd al fi se t : ByteArray) (w : World) :
    Calls Tryz.prog 71 #[.agg #[.string wd, .string al, .string fi, .string se], .string t] w fun e w' =>
      e = .returned (.func (.func 116) #[] #[.pointer (some ⟨w.heap.size, 0, none⟩), .pointer (some ⟨w.heap.size + 1, 0, none⟩)]) ∧ w' = (w.alloc (.cells #[.string wd, .string al, .string fi, .string se] 124)).alloc (.cells #[.string t] 9) := by
  go_enter Tryz.func71, Tryz.ntmps71
  go_wp2
  go_ret
  exact ⟨rfl, rfl⟩

/-- What a round keeps for the letters: what lay below n₀, and the blocks of the alphabet and of the text. -/
def Nm.Kp (n₀ A T : Nat) (W W' : World) : Prop := Below n₀ W W' ∧ W'.heap[A]? = W.heap[A]? ∧ W'.heap[T]? = W.heap[T]?
theorem Nm.Kp.refl (n₀ A T : Nat) (W : World) : Nm.Kp n₀ A T W W := ⟨Below.refl _ _, rfl, rfl⟩
theorem Nm.Kp.trans {n₀ A T : Nat} {X Y Z : World} (h : Nm.Kp n₀ A T X Y) (k : Nm.Kp n₀ A T Y Z) : Nm.Kp n₀ A T X Z := ⟨h.1.trans k.1, k.2.1.trans h.2.1, k.2.2.trans h.2.2⟩
theorem Nm.Kp.below {n₀ A T : Nat} {W W' : World} (h : Below W.heap.size W W') (h1 : n₀ ≤ W.heap.size) (h2 : A < W.heap.size) (h3 : T < W.heap.size) : Nm.Kp n₀ A T W W' := ⟨h.mono h1, h.block A h2, h.block T h3⟩
theorem Nm.Kp.alloc {n₀ A T : Nat} {W W' : World} (h : Nm.Kp n₀ A T W W') (h1 : n₀ ≤ W'.heap.size) (h2 : A < W'.heap.size) (h3 : T < W'.heap.size) (o : Obj) : Nm.Kp n₀ A T W (W'.alloc o) := h.trans (Nm.Kp.below (Nm.al _ _) h1 h2 h3)
theorem Nm.kp_b {n₀ A T : Nat} {w : World} (hn : n₀ ≤ w.heap.size) (hA : A < w.heap.size) (hT : T < w.heap.size) (W : World) (l : Nat) (o o' : Obj) (hl : w.heap.size ≤ l) (h : W.heap[l]? = some o) (h1 : o.isCells = false) (h2 : o.isWalk = false) : Nm.Kp n₀ A T W (W.putObj l o') :=
  have hg := grownBy_putObj' W l o'
  have hs := (Array.getElem?_eq_some_iff.1 h).1
  ⟨belowK_b hn W l o o' hl h h1 h2, hg.block A (by omega) (by intro e; cases e; omega), hg.block T (by omega) (by intro e; cases e; omega)⟩

theorem Nm.lts_app (a b : List Ltr) : Nm.lts (a ++ b) = Nm.lts a ++ Nm.lts b := List.map_append
theorem Nm.lts_len (a : List Ltr) : (Nm.lts a).length = a.length := List.length_map _
theorem Nm.extract_drop (t : ByteArray) (k : Nat) : (t.extract k t.size).data.toList = t.data.toList.drop k := by
  have h2 : t.data.toList.length = t.size := (Lib.size_eq t).symm
  rw [Lib.extract_data]
  exact List.take_of_length_le (by rw [List.length_drop]; omega)

theorem Nm.letters1_stops (n : Nat) (hn : 1 ≤ n) (s : Nat) (A T n₀ : Nat) (wd al fi se t : ByteArray) (hok : Nm.AlOk s al fi se) (hm : t.size ≤ maxLen) (w : World) (hA : A < w.heap.size) (hT : T < w.heap.size) (hn0 : n₀ ≤ w.heap.size)
    (ha : Nm.AlBox w A wd al fi se) (hc : w.cell? ⟨T, 0, none⟩ = some (.string t)) :
    Nm.StopsG Fence.wide n Tryz.prog 116 #[.pointer (some ⟨A, 0, none⟩), .pointer (some ⟨T, 0, none⟩)] encL (Nm.Kp n₀ A T) (fun xs => Nm.lts xs <+: (Nm.rd s t.data.toList).1) (fun xs => Nm.lts xs = (Nm.rd s t.data.toList).1) (fun xs => Nm.lts xs <+: (Nm.rd s t.data.toList).1) w := fun l J Jx W hW hJ hJx hY h0 => by
  have hcW : W.cell? ⟨T, 0, none⟩ = some (.string t) := (hW.cell (p := ⟨T, 0, none⟩) hT).trans hc
  have haW : Nm.AlBox W A wd al fi se := (hW.block A hA).trans ha
  have HC := Lib.hid hcW
  have HA := Lib.hid haW
  have LEN := Lib.hid (fun (x : ByteArray) (hx : x.size ≤ maxLen) w' => callsIn_wide (n := n - 1) |>.2 (Nm.length_any s wd al fi se x hok.al hok.fi hok.se hx w'))
  have hlen := Lib.size_eq t
  clear ha hc haW hcW hok
  refine callsIn_of_wp Tryz.func116 rfl trivial ?_ rfl
  simp only [Tryz.ntmps116, List.size_toArray, List.length_cons, List.length_nil, Nat.reduceAdd, Nat.reduceSub, Array.replicate_succ, Array.replicate_zero, List.push_toArray, List.append_toArray, List.nil_append, List.cons_append]
  gi_wp2
  gi_loopw [4, 5] (fun s4 _ wr => ∃ (k : Nat) (pre : List Ltr), k ≤ t.size ∧ s4 = .int .i64 (k : Int) ∧ Hid (Nm.lts pre ++ (Nm.rd s (t.data.toList.drop k)).1 = (Nm.rd s t.data.toList).1) ∧ pre.length ≤ k ∧ J pre wr ∧ Nm.Kp n₀ A T W wr) (fun s4 _ _ => t.size - (intOf s4).toNat)
  case atStart => exact ⟨0, [], by omega, rfl, Lib.hid rfl, by simp, h0, Nm.Kp.refl _ _ _ _⟩
  case round =>
    obtain ⟨k, pre, hk, rfl, HX, hpl, hJk, hkp⟩ := hrel
    have hcr : wr.cell? ⟨T, 0, none⟩ = some (.string t) := by
      have := HC.out
      unfold World.cell? at this ⊢
      dsimp only at this ⊢
      rw [hkp.2.2]
      exact this
    have har : Nm.AlBox wr A wd al fi se := hkp.2.1.trans HA.out
    have ha0 : wr.cell? ⟨A, 0, none⟩ = some (.string wd) := by unfold Nm.AlBox at har; simp [World.cell?, har]
    have ha1 : wr.cell? ⟨A, 1, none⟩ = some (.string al) := by unfold Nm.AlBox at har; simp [World.cell?, har]
    have ha2 : wr.cell? ⟨A, 2, none⟩ = some (.string fi) := by unfold Nm.AlBox at har; simp [World.cell?, har]
    have ha3 : wr.cell? ⟨A, 3, none⟩ = some (.string se) := by unfold Nm.AlBox at har; simp [World.cell?, har]
    have R0 := fun dq os => cell_regrown ha0 dq os
    have R1 := fun dq os => cell_regrown ha1 dq os
    have R2 := fun dq os => cell_regrown ha2 dq os
    have R3 := fun dq os => cell_regrown ha3 dq os
    have RC := fun dq os => cell_regrown hcr dq os
    have hsz2 : (t.extract k t.size).size ≤ maxLen := by
      have := Lib.size_eq (t.extract k t.size)
      rw [Nm.extract_drop, List.length_drop] at this
      omega
    have LR := Lib.hid (fun dq os => CallsIn.regrown_of (LEN.out (t.extract k t.size) hsz2 (Go.Sort.grow (redrawn wr dq) os)))
    rw [Nm.extract_drop] at LR
    have hln2 := Nm.ln_two s (t.data.toList.drop k)
    have hlnl := Nm.ln_le s (t.data.toList.drop k)
    rw [List.length_drop, ← hlen] at hlnl
    have HS := Lib.hid (fun h => Nm.rd_step (s := s) (l := t.data.toList.drop k) h)
    have HE := Lib.hid (fun h => Nm.rd_stop (s := s) (l := t.data.toList.drop k) h)
    have HKP := Lib.hid hkp
    have HJK := Lib.hid hJk
    obtain ⟨m, hmm⟩ : ∃ m, Nm.ln s (t.data.toList.drop k) = m := ⟨_, rfl⟩
    have HSZ : Hid (n₀ ≤ wr.heap.size ∧ A < wr.heap.size ∧ T < wr.heap.size) := Lib.hid ⟨by have := hkp.1.size; have := hW.size; omega, by have := (Array.getElem?_eq_some_iff.1 har).1; omega, Nm.cell_lt hcr⟩
    rw [hmm] at LR hln2 hlnl HS HE
    have HLEN := Lib.hid hlen
    have HHM := Lib.hid hmm
    have hk0 : (0 : Int) ≤ (k : Int) := by omega
    have hk1 : (k : Int) ≤ (t.size : Int) := by omega
    clear ha0 ha1 ha2 ha3 hcr har hkp hJk hsz2 hmm hlen
    gi_wp2
    refine wpIn_region_quiet_below rfl (by kernel_rfl) (by kernel_rfl) ?_
    repeat
      (refine wpQuietIn_step (by first | (go_simp; done) | (go_simp; intros; trivial)) (fun K hK => ?_)
       go_simp
       first
         | (refine hK _ ?_; clear hK K)
         | (apply Exists.intro
            refine ⟨fun _ => ?_, hK _ ?_⟩
            (gi_at_call 117; exact LR.out _ _)
            clear hK K))
    refine wpQuietIn_nil ?_
    intro _ hw'
    obtain ⟨⟨dq, osq⟩, hw''⟩ := hw'
    subst hw''
    have hc4 := RC dq osq
    have hJv := hJ pre wr _ none HJK.out (Nm.grown (below_regrown wr dq osq)) (fun r e => by cases e)
    have hkv := HKP.out.trans (Nm.Kp.below (below_regrown wr dq osq) HSZ.out.1 HSZ.out.2.1 HSZ.out.2.2)
    by_cases hm0 : m = 0
    · subst hm0
      clear R0 R1 R2 R3 RC
      gi_wp2
      refine ⟨fun _ h => (by cases h), ?_⟩
      rename_i _ hK' _ _ _ heq
      clear heq
      refine hK' _ _ ?_
      gi_wp2
      refine bodyPost_ret (results_none rfl _ _ _) rfl ?_
      exact ⟨⟨_, rfl⟩, .inl ⟨pre, by have h1 := HX.out; rw [HE.out trivial] at h1; simpa using h1, hJv⟩⟩
    · have hm1 : ((m : Int) == 0) = false := by simpa using hm0
      have hx : 1 ≤ (t.extract k (k + m)).size ∧ (t.extract k (k + m)).size ≤ 2 := by
        have h1 : (t.extract k (k + m)).size = m := by
          have h2 := HLEN.out
          rw [Lib.size_eq, Lib.extract_data, List.length_take, List.length_drop]
          omega
        omega
      have hxd : (t.extract k (k + m)).data.toList = (t.data.toList.drop k).take m := by
        rw [Lib.extract_data, show k + m - k = m from by omega]
      obtain ⟨j, hjj⟩ : ∃ j, j = k + m := ⟨_, rfl⟩
      have hj : (k : Int) + (m : Int) = (j : Int) := by omega
      have hk2 : (j : Int) ≤ (t.size : Int) := by omega
      have hk3 : (k : Int) ≤ (j : Int) := by omega
      have DD : Hid (j ≤ t.size ∧ pre.length + 1 ≤ j ∧ t.size - j < t.size - k) := Lib.hid ⟨by omega, by omega, by omega⟩
      have hwj : wrap64 (j : Int) = (j : Int) := IntWalk.wrap64_in _ (by unfold maxLen at hm; exact ⟨by omega, by omega⟩)
      rw [← hjj] at hx hxd
      have HGD : Hid (Nm.lts (pre ++ [⟨t.extract k j, hx⟩]) <+: (Nm.rd s t.data.toList).1) := Lib.hid (by
        have h1 := HX.out
        rw [HS.out hm0] at h1
        rw [Nm.lts_app, ← h1]
        refine List.prefix_append_right_inj _ |>.2 ?_
        show [(t.extract k j).data.toList] <+: _
        rw [hxd]
        exact List.prefix_append [_] _)
      obtain ⟨fn, tmps, assign, body, hy, hR⟩ := hY pre ⟨t.extract k j, hx⟩ _ hJv HGD.out
      dsimp only [encL] at hy
      have HJJ := Lib.hid hjj
      have HM0 := Lib.hid hm0
      have HXD := Lib.hid hxd
      clear R0 R1 R2 R3 RC hxd hjj
      gi_wp2
      refine hR.mono ?_
      rintro e W3 (⟨rfl, hJ3, hk3'⟩ | ⟨rfl, hJx3⟩)
      · gi_wp2
        have HREL : Hid (Nm.lts (pre ++ [⟨t.extract k j, hx⟩]) ++ (Nm.rd s (t.data.toList.drop j)).1 = (Nm.rd s t.data.toList).1) := Lib.hid (by
          have h1 := HX.out
          rw [HS.out HM0.out, List.drop_drop, ← HJJ.out] at h1
          rw [Nm.lts_app, ← h1, List.append_assoc]
          congr 1
          show [(t.extract k j).data.toList] ++ _ = _
          rw [HXD.out]
          rfl)
        rw [hwj]
        refine ⟨⟨j, pre ++ [⟨t.extract k j, hx⟩], DD.out.1, rfl, HREL, by rw [List.length_append]; exact DD.out.2.1, hJ3, hkv.trans hk3'⟩, ?_⟩
        simp only [intOf, Int.toNat_natCast]
        exact DD.out.2.2
      · gi_wp2
        refine bodyPost_ret (results_none rfl _ _ _) rfl ?_
        exact ⟨⟨_, rfl⟩, .inr ⟨_, HGD.out, hJx3⟩⟩
end Go.Proofs.YtkddpealobeleaaGreatDoor
