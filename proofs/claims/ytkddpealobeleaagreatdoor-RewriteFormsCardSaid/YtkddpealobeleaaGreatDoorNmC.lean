/- Layer 9: the alphabets of the program, and which one a script has. -/
import Derived.Test.YtkddpealobeleaaGreatDoorNmB
set_option linter.unusedSimpArgs false
set_option linter.unusedVariables false
namespace Go.Proofs.YtkddpealobeleaaGreatDoor
open Go.RowKit Go.Shelf
set_option maxRecDepth 100000
set_option maxHeartbeats 1000000

def Nm.word : Nat → Nm.T
  | 1 => [112, 108, 97, 105, 110]
  | 2 => [99, 97, 115, 101, 100]
  | 3 => [97, 98, 106, 97, 100]
  | 4 => [115, 121, 108, 108, 97, 98]
  | _ => []
def Nm.bt (l : Nm.T) : ByteArray := ⟨l.toArray⟩
theorem Nm.bt_list (l : Nm.T) : (Nm.bt l).data.toList = l := by simp [Nm.bt]
def Nm.fld (s i : Nat) : ByteArray := Nm.bt (match i with
  | 0 => Nm.word s
  | 1 => (Nm.ab s).al
  | 2 => (Nm.ab s).fi
  | _ => (Nm.ab s).se)
def Nm.cells20 (F : Nat → Nat → ByteArray) : Array Value := #[.string (F 0 0), .string (F 0 1), .string (F 0 2), .string (F 0 3), .string (F 1 0), .string (F 1 1), .string (F 1 2), .string (F 1 3), .string (F 2 0), .string (F 2 1), .string (F 2 2), .string (F 2 3), .string (F 3 0), .string (F 3 1), .string (F 3 2), .string (F 3 3), .string (F 4 0), .string (F 4 1), .string (F 4 2), .string (F 4 3)]
/-- The alphabets lie below block B. -/
structure Nm.Tb (B : Nat) (w : World) : Prop where
  g : ∀ s i, s < 5 → i < 4 → w.cell? ⟨1, 4 * s + i, none⟩ = some (.string (Nm.fld s i))
  lt : 1 < B
  row : ∃ t fr, w.heap[1]? = some (.cells (Nm.cells20 Nm.fld) t fr)
theorem Nm.Tb.bt {w w' : World} (h : Nm.Tb w.heap.size w) (hb : Below w.heap.size w w') : Nm.Tb w'.heap.size w' :=
  ⟨fun s i hs hi => Nm.cell_bt (h.g s i hs hi) hb, Nat.lt_of_lt_of_le h.lt hb.size, by
    obtain ⟨t, fr, hr⟩ := h.row
    exact ⟨t, fr, (hb.block _ h.lt).trans hr⟩⟩
def Nm.sc (k : Int) : Nat := if 1 ≤ k ∧ k ≤ 4 then k.toNat else 0
theorem Nm.sc_lt (k : Int) : Nm.sc k < 5 := by unfold Nm.sc; split <;> omega
theorem Nm.fld_ok (s : Nat) : Nm.AlOk s (Nm.fld s 1) (Nm.fld s 2) (Nm.fld s 3) := ⟨Nm.bt_list _, Nm.bt_list _, Nm.bt_list _⟩
def Nm.alV (s : Nat) : Value := .agg #[.string (Nm.fld s 0), .string (Nm.fld s 1), .string (Nm.fld s 2), .string (Nm.fld s 3)]
theorem Nm.fld_zero (i : Nat) : Nm.fld 0 i = ⟨#[]⟩ := by
  unfold Nm.fld
  match i with
  | 0 => rfl
  | 1 => rfl
  | 2 => rfl
  | n + 3 => rfl

theorem Nm.alphabetOf_any (k : Int) (w : World) (h : Nm.Tb w.heap.size w) :
    Calls Tryz.prog 70 #[.int .i64 k] w fun e w' => e = .returned (.agg #[.string (Nm.fld (Nm.sc k) 0), .string (Nm.fld (Nm.sc k) 1), .string (Nm.fld (Nm.sc k) 2), .string (Nm.fld (Nm.sc k) 3)]) ∧ Below w.heap.size w w' := by
  have hlt := h.lt
  have hlt0 : 0 < w.heap.size := by omega
  by_cases hk : 0 ≤ k ∧ k < 5
  · obtain ⟨h1, h2⟩ := hk
    have hcase : k = 0 ∨ k = 1 ∨ k = 2 ∨ k = 3 ∨ k = 4 := by omega
    rcases hcase with rfl | rfl | rfl | rfl | rfl
    · have c0 := h.g 0 0 (by omega) (by omega)
      have c1 := h.g 0 1 (by omega) (by omega)
      have c2 := h.g 0 2 (by omega) (by omega)
      have c3 := h.g 0 3 (by omega) (by omega)
      rw [show Nm.sc 0 = 0 from by decide]
      generalize Nm.fld 0 0 = f0 at *
      generalize Nm.fld 0 1 = f1 at *
      generalize Nm.fld 0 2 = f2 at *
      generalize Nm.fld 0 3 = f3 at *
      simp only [Nat.reduceMul, Nat.reduceAdd] at c0 c1 c2 c3
      clear h
      go_enter Tryz.func70, Tryz.ntmps70
      go_wp2
      have r := heap_alloc_new w (.cells #[.string f0, .string f1, .string f2, .string f3] 124)
      refine bodyPost_ret (v := .agg #[.string f0, .string f1, .string f2, .string f3]) (by simp [results, Tryz.f70, go_sem]) rfl ⟨rfl, Nm.al _ _⟩
    · have c0 := h.g 1 0 (by omega) (by omega)
      have c1 := h.g 1 1 (by omega) (by omega)
      have c2 := h.g 1 2 (by omega) (by omega)
      have c3 := h.g 1 3 (by omega) (by omega)
      rw [show Nm.sc 1 = 1 from by decide]
      generalize Nm.fld 1 0 = f0 at *
      generalize Nm.fld 1 1 = f1 at *
      generalize Nm.fld 1 2 = f2 at *
      generalize Nm.fld 1 3 = f3 at *
      simp only [Nat.reduceMul, Nat.reduceAdd] at c0 c1 c2 c3
      clear h
      go_enter Tryz.func70, Tryz.ntmps70
      go_wp2
      have r := heap_alloc_new w (.cells #[.string f0, .string f1, .string f2, .string f3] 124)
      refine bodyPost_ret (v := .agg #[.string f0, .string f1, .string f2, .string f3]) (by simp [results, Tryz.f70, go_sem]) rfl ⟨rfl, Nm.al _ _⟩
    · have c0 := h.g 2 0 (by omega) (by omega)
      have c1 := h.g 2 1 (by omega) (by omega)
      have c2 := h.g 2 2 (by omega) (by omega)
      have c3 := h.g 2 3 (by omega) (by omega)
      rw [show Nm.sc 2 = 2 from by decide]
      generalize Nm.fld 2 0 = f0 at *
      generalize Nm.fld 2 1 = f1 at *
      generalize Nm.fld 2 2 = f2 at *
      generalize Nm.fld 2 3 = f3 at *
      simp only [Nat.reduceMul, Nat.reduceAdd] at c0 c1 c2 c3
      clear h
      go_enter Tryz.func70, Tryz.ntmps70
      go_wp2
      have r := heap_alloc_new w (.cells #[.string f0, .string f1, .string f2, .string f3] 124)
      refine bodyPost_ret (v := .agg #[.string f0, .string f1, .string f2, .string f3]) (by simp [results, Tryz.f70, go_sem]) rfl ⟨rfl, Nm.al _ _⟩
    · have c0 := h.g 3 0 (by omega) (by omega)
      have c1 := h.g 3 1 (by omega) (by omega)
      have c2 := h.g 3 2 (by omega) (by omega)
      have c3 := h.g 3 3 (by omega) (by omega)
      rw [show Nm.sc 3 = 3 from by decide]
      generalize Nm.fld 3 0 = f0 at *
      generalize Nm.fld 3 1 = f1 at *
      generalize Nm.fld 3 2 = f2 at *
      generalize Nm.fld 3 3 = f3 at *
      simp only [Nat.reduceMul, Nat.reduceAdd] at c0 c1 c2 c3
      clear h
      go_enter Tryz.func70, Tryz.ntmps70
      go_wp2
      have r := heap_alloc_new w (.cells #[.string f0, .string f1, .string f2, .string f3] 124)
      refine bodyPost_ret (v := .agg #[.string f0, .string f1, .string f2, .string f3]) (by simp [results, Tryz.f70, go_sem]) rfl ⟨rfl, Nm.al _ _⟩
    · have c0 := h.g 4 0 (by omega) (by omega)
      have c1 := h.g 4 1 (by omega) (by omega)
      have c2 := h.g 4 2 (by omega) (by omega)
      have c3 := h.g 4 3 (by omega) (by omega)
      rw [show Nm.sc 4 = 4 from by decide]
      generalize Nm.fld 4 0 = f0 at *
      generalize Nm.fld 4 1 = f1 at *
      generalize Nm.fld 4 2 = f2 at *
      generalize Nm.fld 4 3 = f3 at *
      simp only [Nat.reduceMul, Nat.reduceAdd] at c0 c1 c2 c3
      clear h
      go_enter Tryz.func70, Tryz.ntmps70
      go_wp2
      have r := heap_alloc_new w (.cells #[.string f0, .string f1, .string f2, .string f3] 124)
      refine bodyPost_ret (v := .agg #[.string f0, .string f1, .string f2, .string f3]) (by simp [results, Tryz.f70, go_sem]) rfl ⟨rfl, Nm.al _ _⟩
  · have e : Nm.sc k = 0 := by
      unfold Nm.sc
      rw [if_neg (by omega)]
    rw [e, Nm.fld_zero, Nm.fld_zero, Nm.fld_zero, Nm.fld_zero]
    clear h e
    by_cases h0 : k < 0
    · clear hk
      go_enter Tryz.func70, Tryz.ntmps70
      go_wp2
      refine bodyPost_ret (v := .agg #[.string ⟨#[]⟩, .string ⟨#[]⟩, .string ⟨#[]⟩, .string ⟨#[]⟩]) (by simp [results, Tryz.f70, go_sem]) rfl ⟨rfl, Nm.al _ _⟩
    · have h5 : 5 ≤ k := by omega
      clear hk
      go_enter Tryz.func70, Tryz.ntmps70
      go_wp2
      refine bodyPost_ret (v := .agg #[.string ⟨#[]⟩, .string ⟨#[]⟩, .string ⟨#[]⟩, .string ⟨#[]⟩]) (by simp [results, Tryz.f70, go_sem]) rfl ⟨rfl, Nm.al _ _⟩
end Go.Proofs.YtkddpealobeleaaGreatDoor
