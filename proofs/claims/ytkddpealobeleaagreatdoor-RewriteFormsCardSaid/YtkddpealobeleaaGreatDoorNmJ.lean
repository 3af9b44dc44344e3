/- Layer 9: the program's Fold and Valid. -/
import Derived.Test.YtkddpealobeleaaGreatDoorNmI
import Derived.Test.YtkddpealobeleaaGreatDoorNmH
set_option linter.unusedSimpArgs false
set_option linter.unusedVariables false
namespace Go.Proofs.YtkddpealobeleaaGreatDoor
open Go.RowKit Go.Shelf
set_option maxRecDepth 100000
set_option maxHeartbeats 1000000

theorem Nm.flat_le (s : Nat) : ∀ l, (Nm.rd s l).1.flatten.length ≤ 2 * (Nm.rd s l).1.length := by
  refine Nm.ind s (fun l h => by rw [Nm.rd_stop h]; simp) (fun l h ih => ?_)
  have := Nm.ln_two s l
  rw [Nm.rd_step h, List.flatten_cons, List.length_append, List.length_cons, List.length_take]
  omega
theorem Nm.isW_len {s : Nat} {w : Nm.T} (h : Nm.isW s w = true) : w.length ≤ 24 := by
  have h1 := Nm.flat_le s w
  have h2 := Nm.ls_sum h
  have h3 := (Nm.isW_iff.1 h).2.2
  unfold Nm.ls at h2 h3
  rw [h2] at h1
  omega

theorem Nm.fold_ok (k : Int) (word : ByteArray) (w : World) (hw : Nm.isW (Nm.sc k) word.data.toList = true) (hm : word.size ≤ maxLen) (h : Nm.Tb w.heap.size w) :
    Calls Tryz.prog 32 #[.int .i64 k, .string word] w fun e w' => e = .returned (.tuple #[.string (Nm.bt (word.data.toList.map Nm.low)), .int .i64 0]) ∧ Below w.heap.size w w' := by
  have hl := Nm.isW_len hw
  rw [← Lib.size_eq] at hl
  have L1 := Lib.hid (Nm.letters_ok k word w hw hm h)
  have L2 := Lib.hid (fun v => Nm.lower_any word v (by omega) (Nm.word_ascii hw))
  obtain ⟨r, hr⟩ : ∃ r, Nm.bt (word.data.toList.map Nm.low) = r := ⟨_, rfl⟩
  rw [hr] at L2 ⊢
  clear hr
  go_enter Tryz.func32, Tryz.ntmps32
  go_wp2_with fail
  refine L1.out.mono ?_
  rintro e w1 ⟨v, rfl, _, hb1⟩
  go_wp2_with fail
  refine (L2.out w1).mono ?_
  rintro e w2 ⟨rfl, hb2⟩
  go_wp2
  go_ret2
  exact ⟨rfl, Nm.Nb hb1 hb2⟩
theorem Nm.fold_bad (k : Int) (word : ByteArray) (w : World) (hw : Nm.isW (Nm.sc k) word.data.toList = false) (hm : word.size ≤ maxLen) (h : Nm.Tb w.heap.size w) :
    Calls Tryz.prog 32 #[.int .i64 k, .string word] w fun e w' => e = .returned (.tuple #[.string ⟨#[]⟩, .int .i64 1]) ∧ Below w.heap.size w w' := by
  have L1 := Lib.hid (Nm.letters_bad k word w hw hm h)
  go_enter Tryz.func32, Tryz.ntmps32
  go_wp2_with fail
  refine L1.out.mono ?_
  rintro e w1 ⟨rfl, hb1⟩
  go_wp2
  go_ret2
  exact ⟨rfl, hb1⟩

theorem Nm.sbt {w w' : World} {A : Option Addr} {ss : List ByteArray} (h : Strs w w.heap.size A ss) (hb : Below w.heap.size w w') : Strs w' w'.heap.size A ss := fun k hk => by
  obtain ⟨ad, rfl, hlt, hc⟩ := h k hk
  exact ⟨ad, rfl, Nat.lt_of_lt_of_le hlt hb.size, (hb.cell (p := ad.add k) (by rw [add_block]; exact hlt)).trans hc⟩
/-! ### Valid -/
def Nm.badN (s : Nat) (ss : List ByteArray) : Bool := ss.any fun x => !Nm.isW s x.data.toList
end Go.Proofs.YtkddpealobeleaaGreatDoor
