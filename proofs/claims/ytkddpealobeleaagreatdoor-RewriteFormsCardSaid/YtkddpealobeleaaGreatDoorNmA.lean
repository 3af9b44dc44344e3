/- Layer 9, the program's small functions: contains, and the length of the letter with which a text begins. -/
import Derived.Test.YtkddpealobeleaaGreatDoorNmScan
import Derived.Test.YtkddpealobeleaaGreatDoorShelf
import Derived.Test.YtkddpealobeleaaGreatDoorProg
import Derived.BigQuiet
import Derived.Lib.QuietBelow
import Derived.Lib.Hide
import Derived.WalkKit
set_option linter.unusedSimpArgs false
set_option linter.unusedVariables false
namespace Go.Proofs.YtkddpealobeleaaGreatDoor
open Go.RowKit Go.Shelf
set_option maxRecDepth 100000
set_option maxHeartbeats 4000000

theorem Nm.indexByte_nonneg (c : UInt8) : ∀ l : List UInt8, decide (0 ≤ Lib.indexByte l c) = l.contains c
  | [] => rfl
  | b :: l => by
    have ih := Nm.indexByte_nonneg c l
    have hge := Lib.indexByte_ge l c
    unfold Lib.indexByte
    rw [List.contains_cons]
    by_cases h : b = c
    · subst h
      simp
    · have h1 : (b == c) = false := by simpa using h
      have h2 : (c == b) = false := by simpa using fun e => h e.symm
      rw [h1, h2, Bool.false_or, ← ih]
      simp only [Bool.false_eq_true, if_false]
      by_cases h3 : Lib.indexByte l c = -1
      · rw [h3]; simp
      · rw [if_neg (by simpa using h3)]
        exact decide_eq_decide.2 (by omega)

theorem Nm.drewN_below (w : World) (n : Nat) : Below w.heap.size w (w.drewN n) := ⟨rfl, rfl, rfl, Nat.le_refl _, fun _ _ => rfl⟩
theorem Nm.drewB {B : Nat} {w v : World} (h : Below B w v) (n : Nat) : Below B w (v.drewN n) := ⟨h.os, h.tape, h.output, h.size, h.block⟩
theorem Nm.contains_any (s : ByteArray) (c : UInt8) (w : World) :
    Calls Tryz.prog 150 #[.string s, .int .u8 (c.toNat : Int)] w fun e w' => e = .returned (.bool (s.data.toList.contains c)) ∧ w = w' := by
  have hn := Nm.indexByte_nonneg c s.data.toList
  have H := Lib.hid (fun w' => Tryz.strings_IndexByte s (c.toNat : Int) w')
  have e1 : ((c.toNat : Int)).toNat.toUInt8 = c := by simp
  simp only [e1] at H
  generalize Lib.indexByte s.data.toList c = i at *
  generalize s.data.toList.contains c = r at *
  go_enter Tryz.func150, Tryz.ntmps150
  go_wp2_with (go_at_call 170; refine (H.out _).mono ?_; rintro e w1 ⟨rfl, rfl⟩)
  go_ret
  simp [hn]

theorem Nm.str_at {t : ByteArray} {l : Nm.T} (h : t.data.toList = l) (k : Nat) (hk : k < t.size) {x : UInt8} (hx : l[k]? = some x) : t[k]'hk = x := by
  have := Lib.data_getElem? t k hk
  rw [h, hx] at this
  exact (Option.some.inj this).symm

theorem Nm.index_str (s : ByteArray) (i : Nat) (h : i < s.size) (x : Int) (hx : x = (i : Int)) (w : World) : Sem.run Tryz.prog (Instr.index 9 (.string s) (.int .i64 x)) w = .ok (.int .u8 ((s[i]'h).toNat : Int)) w := by
  have hu : Tryz.prog.underlying 9 = some .string := Tryz.underlying9
  have hg : s[i]? = some s[i] := getElem?_pos s i h
  subst hx
  unfold Instr.index
  simp [go_sem, hu, hg]
/-- The length of the letter with which a text begins. -/
theorem Nm.length_any (s : Nat) (wd al fi se t : ByteArray) (hal : al.data.toList = (Nm.ab s).al) (hfi : fi.data.toList = (Nm.ab s).fi) (hse : se.data.toList = (Nm.ab s).se) (ht : t.size ≤ maxLen) (w : World) :
    Calls Tryz.prog 117 #[.agg #[.string wd, .string al, .string fi, .string se], .string t] w fun e w' => e = .returned (.int .i64 (Nm.ln s t.data.toList : Nat)) ∧ Below w.heap.size w w' := by
  have hsz := Lib.size_eq t
  unfold maxLen at ht
  have hB : Below w.heap.size w (w.alloc (.cells #[.string wd, .string al, .string fi, .string se] 124)) := (Below.refl _ w).alloc (Nat.le_refl _) _
  have CA := Lib.hid (fun (x : UInt8) v => Nm.contains_any al x v)
  have CF := Lib.hid (fun (x : UInt8) v => Nm.contains_any fi x v)
  have CS := Lib.hid (fun (x : UInt8) v => Nm.contains_any se x v)
  rw [hal] at CA
  rw [hfi] at CF
  rw [hse] at CS
  clear hal hfi hse
  match hl : t.data.toList with
  | [] =>
    rw [hl] at hsz
    simp only [List.length_nil] at hsz
    have hd : decide ((1 : Int) < (t.size : Int)) = false := decide_eq_false (by omega)
    have he : t.toList.isEmpty = true := by
      rw [Lib.toList_data, hl]
      rfl
    clear CA CF CS
    show Calls _ _ _ _ fun e w' => e = .returned (.int .i64 0) ∧ _
    go_enter Tryz.func117, Tryz.ntmps117
    go_wp2
    go_quiet (fail)
    go_wp2
    go_quiet (fail)
    go_wp2
    go_ret
    first | exact ⟨rfl, Nm.drewB hB _⟩ | exact ⟨rfl, Nm.drewB (Nm.drewB hB _) _⟩
  | [x] =>
    rw [hl] at hsz
    simp only [List.length_cons, List.length_nil] at hsz
    have hd : decide ((1 : Int) < (t.size : Int)) = false := decide_eq_false (by omega)
    have he : t.toList.isEmpty = false := by
      rw [Lib.toList_data, hl]
      rfl
    have h0 : 0 < t.size := by omega
    have hx : t[0]'h0 = x := Nm.str_at hl 0 h0 rfl
    have hx2 : t[0]?.getD default = x := by rw [getElem?_pos t 0 h0, hx]; rfl
    have hln : ∀ r, (Nm.ab s).al.contains x = r → Nm.ln s [x] = if r = true then 1 else 0 := fun r hr => by simp only [Nm.ln, Nm.one, hr]
    obtain ⟨r, hr⟩ : ∃ r, (Nm.ab s).al.contains x = r := ⟨_, rfl⟩
    rw [hln r hr]
    have C1 := Lib.hid (CA.out (t[0]'h0))
    rw [show (Nm.ab s).al.contains (t[0]'h0) = r from by rw [hx]; exact hr] at C1
    have HL := Lib.hid hl
    clear CA CF CS hl hln hr hx hx2
    cases r
    all_goals
      go_enter Tryz.func117, Tryz.ntmps117
      go_wp2
      go_quiet (fail)
      go_wp2
      go_quiet ((go_at_call 150; with_reducible exact (C1.out _).mono fun _ _ h => ⟨h.1, _, h.2.symm⟩))
      go_wp2
      go_ret
      first | exact ⟨rfl, Nm.drewB hB _⟩ | exact ⟨rfl, Nm.drewB (Nm.drewB hB _) _⟩
  | x :: y :: u =>
    rw [hl] at hsz
    simp only [List.length_cons] at hsz
    have hd : decide ((1 : Int) < (t.size : Int)) = true := decide_eq_true (by omega)
    have he : t.toList.isEmpty = false := by
      rw [Lib.toList_data, hl]
      rfl
    have h0 : 0 < t.size := by omega
    have h1 : 1 < t.size := by omega
    have hx : t[0]'h0 = x := Nm.str_at hl 0 h0 rfl
    have hy : t[1]'h1 = y := Nm.str_at hl 1 h1 rfl
    have hx2 : t[0]?.getD default = x := by rw [getElem?_pos t 0 h0, hx]; rfl
    have hy2 : t[1]?.getD default = y := by rw [getElem?_pos t 1 h1, hy]; rfl
    have hln : ∀ a b c, (Nm.ab s).al.contains x = a → (Nm.ab s).fi.contains x = b → (Nm.ab s).se.contains y = c → Nm.ln s (x :: y :: u) = if (b && c) = true then 2 else if a = true then 1 else 0 := fun a b c h1 h2 h3 => by simp only [Nm.ln, Nm.one, Nm.two, h1, h2, h3]
    obtain ⟨a, ha⟩ : ∃ r, (Nm.ab s).al.contains x = r := ⟨_, rfl⟩
    obtain ⟨b, hb⟩ : ∃ r, (Nm.ab s).fi.contains x = r := ⟨_, rfl⟩
    obtain ⟨c, hc⟩ : ∃ r, (Nm.ab s).se.contains y = r := ⟨_, rfl⟩
    rw [hln a b c ha hb hc]
    have C1 := Lib.hid (CA.out (t[0]'h0))
    have C2 := Lib.hid (CF.out (t[0]'h0))
    have C3 := Lib.hid (CS.out (t[1]'h1))
    rw [show (Nm.ab s).al.contains (t[0]'h0) = a from by rw [hx]; exact ha] at C1
    rw [show (Nm.ab s).fi.contains (t[0]'h0) = b from by rw [hx]; exact hb] at C2
    rw [show (Nm.ab s).se.contains (t[1]'h1) = c from by rw [hy]; exact hc] at C3
    have HL := Lib.hid hl
    have I1 := fun w' => Nm.index_str t 1 h1 1 rfl w'
    clear CA CF CS hl hln ha hb hc hx hy hx2 hy2 hsz
    cases b with
    | false =>
      clear C3
      cases a
      all_goals
        go_enter Tryz.func117, Tryz.ntmps117
        go_wp2
        go_quiet ((go_at_call 150; with_reducible exact (C2.out _).mono fun _ _ h => ⟨h.1, _, h.2.symm⟩))
        go_wp2
        go_quiet ((go_at_call 150; with_reducible exact (C1.out _).mono fun _ _ h => ⟨h.1, _, h.2.symm⟩))
        go_wp2
        go_ret
        first | exact ⟨rfl, Nm.drewB hB _⟩ | exact ⟨rfl, Nm.drewB (Nm.drewB hB _) _⟩
    | true =>
      cases c with
      | false =>
        cases a
        all_goals
          go_enter Tryz.func117, Tryz.ntmps117
          go_wp2
          go_quiet ((go_at_call 150; first | (with_reducible exact (C2.out _).mono fun _ _ h => ⟨h.1, _, h.2.symm⟩) | (with_reducible exact (C3.out _).mono fun _ _ h => ⟨h.1, _, h.2.symm⟩)))
          go_wp2
          go_quiet ((go_at_call 150; with_reducible exact (C1.out _).mono fun _ _ h => ⟨h.1, _, h.2.symm⟩))
          go_wp2
          go_ret
          first | exact ⟨rfl, Nm.drewB hB _⟩ | exact ⟨rfl, Nm.drewB (Nm.drewB hB _) _⟩
      | true =>
        clear C1
        go_enter Tryz.func117, Tryz.ntmps117
        go_wp2
        go_quiet ((go_at_call 150; first | (with_reducible exact (C2.out _).mono fun _ _ h => ⟨h.1, _, h.2.symm⟩) | (with_reducible exact (C3.out _).mono fun _ _ h => ⟨h.1, _, h.2.symm⟩)))
        go_wp2
        go_ret
        first | exact ⟨rfl, Nm.drewB hB _⟩ | exact ⟨rfl, Nm.drewB (Nm.drewB hB _) _⟩
end Go.Proofs.YtkddpealobeleaaGreatDoor
