/- Package ratio: sums and products that are not reduced yet; operations. -/
import Derived.Test.YtmnnaaifebajnaaGreatDoorRaB
set_option linter.unusedSimpArgs false
set_option linter.unusedVariables false
namespace Go.Proofs.YtmnnaaifebajnaaGreatDoor
open Go.RowKit
open Ra (Fit)
set_option maxRecDepth 100000

theorem or_any (b : Nat) (w : World) (h0 : w.cell? ⟨b, 0, none⟩ = some (.int .i64 0)) (h1 : w.cell? ⟨b, 1, none⟩ = some (.int .i64 0)) :
    Calls Tryz.prog 92 #[.slice (some ⟨b, 0, none⟩) 2 2] w fun e w' => e = .returned (.int .i64 0) ∧ w = w' := by
  go_enter Tryz.func92, Tryz.ntmps92
  go_wp2
  go_loop [5, 8] (fun v i => i = .int .i64 0 ∨ i = .int .i64 1 ∨ i = .int .i64 2) (fun _ i => 2 - (intOf i).toNat)
  case atStart => exact .inl rfl
  case round =>
    rcases hrel with rfl | rfl | rfl
    · go_wp2
      exact ⟨.inr (.inl rfl), by simp [intOf]⟩
    · go_wp2
      exact ⟨.inr (.inr rfl), by simp [intOf]⟩
    · go_wp2
      go_ret
      exact ⟨rfl, rfl⟩

/- The variable err at block b, and the pointer to it at block g. -/
def Kp (w : World) (g b : Nat) : Prop := w.heap[g]? = some (.cells #[.pointer (some ⟨b, 0, none⟩)] 64 (0, 0)) ∧ w.heap[b]? = some (.cells #[.int .i64 0] 26 (0, 0)) ∧ g ≠ b
theorem Kp.bt {w w' : World} {g b : Nat} (h : Kp w g b) (hb : Below w.heap.size w w') : Kp w' g b :=
  ⟨(hb.block g (Array.getElem?_eq_some_iff.1 h.1).1).trans h.1, (hb.block b (Array.getElem?_eq_some_iff.1 h.2.1).1).trans h.2.1, h.2.2⟩
theorem Kp.cells {w : World} {g b : Nat} (h : Kp w g b) : w.cell? ⟨g, 0, none⟩ = some (.pointer (some ⟨b, 0, none⟩)) ∧ w.cell? ⟨b, 0, none⟩ = some (.int .i64 0) ∧ w.frozen? ⟨b, 0, none⟩ = false :=
  ⟨by rw [Lib.cell_of_heap h.1]; rfl, by rw [Lib.cell_of_heap h.2.1]; rfl, Lib.frozen_of_heap h.2.1 0⟩
theorem Kp.set {w : World} {g b : Nat} (h : Kp w g b) : Kp (w.setCell ⟨b, 0, none⟩ (.int .i64 0)) g b :=
  ⟨(Below.heap_setCell w ⟨b, 0, none⟩ _ g h.2.2).trans h.1, heap_setCell_same w b 0 _ _ _ h.2.1, h.2.2⟩

/- All but one block is as it was. -/
def Keeps (b : Nat) (w w' : World) : Prop := ∀ k, k < w.heap.size → k ≠ b → w'.heap[k]? = w.heap[k]?
theorem At.keeps {w w' : World} {b k : Nat} {r : R3} (h : At w k r) (hk : Keeps b w w') (hn : k ≠ b) : At w' k r := (hk k (Array.getElem?_eq_some_iff.1 h).1 hn).trans h
theorem keeps_set (w : World) (o : Obj) (b : Nat) (v : Value) : Keeps b w (((w.alloc o).setCell ⟨b, 0, none⟩ v).drew) := fun k hk hn =>
  (Below.heap_setCell (w.alloc o) ⟨b, 0, none⟩ v k hn).trans ((al w o).block k hk)

set_option maxHeartbeats 1000000 in
theorem kept_any (x : ByteArray) (g b : Nat) (w : World) (hk : Kp w g b) (B : Nat) (hB : B ≤ b) :
    Calls Tryz.prog 91 #[.string x, .int .i64 0, .pointer (some ⟨g, 0, none⟩)] w fun e w' => e = .returned (.string x) ∧ Kp w' g b ∧ Below B w w' ∧ Keeps b w w' := by
  have hBw : B ≤ w.heap.size := by have := (Array.getElem?_eq_some_iff.1 hk.2.1).1; omega
  have hbT : Below w.heap.size w ((w.alloc (.cells #[.int .i64 0, .int .i64 0] 26)).drew) := ((Below.refl _ _).alloc (Nat.le_refl _) _).drew
  have hgT : ((w.alloc (.cells #[.int .i64 0, .int .i64 0] 26)).drew).heap[w.heap.size]? = some (.cells #[.int .i64 0, .int .i64 0] 26 (0, 0)) := heap_alloc_new w _
  have x0 : ((w.alloc (.cells #[.int .i64 0, .int .i64 0] 26)).drew).cell? ⟨w.heap.size, 0, none⟩ = some (.int .i64 0) := by rw [Lib.cell_of_heap hgT]; rfl
  have x1 : ((w.alloc (.cells #[.int .i64 0, .int .i64 0] 26)).drew).cell? ⟨w.heap.size, 1, none⟩ = some (.int .i64 0) := by rw [Lib.cell_of_heap hgT]; rfl
  have OR := Lib.hid (or_any w.heap.size _ x0 x1)
  have K2 : Kp ((w.alloc (.cells #[.int .i64 0, .int .i64 0] 26)).drew) g b := hk.bt hbT
  have K3 : Kp ((w.alloc (.cells #[.int .i64 0, .int .i64 0] 26)).setCell ⟨b, 0, none⟩ (.int .i64 0)).drew g b := K2.set
  have HK3 := Lib.hid K3
  have HB : Hid (Below B w ((w.alloc (.cells #[.int .i64 0, .int .i64 0] 26)).setCell ⟨b, 0, none⟩ (.int .i64 0)).drew) := Lib.hid (((hbT.mono hBw).setCell (p := ⟨b, 0, none⟩) hB _))
  obtain ⟨hg, h0, hf⟩ := hk.cells
  obtain ⟨y1, y2, y3⟩ := K2.cells
  obtain ⟨n1, n2, n3⟩ := K3.cells
  clear x0 x1 hgT hbT hBw K3 K2 hk
  go_enter Tryz.func91, Tryz.ntmps91
  go_wp2_with fail
  go_region_held3 (fun w' => w'.cell? ⟨g, 0, none⟩ = some (.pointer (some ⟨b, 0, none⟩)) ∧ w'.cell? ⟨b, 0, none⟩ = some (.int .i64 0) ∧ w'.frozen? ⟨b, 0, none⟩ = false) (first | exact ⟨hg, h0, hf⟩ | exact ⟨y1, y2, y3⟩ | exact ⟨n1, n2, n3⟩ | go_keep)
    (first
      | (go_at_call 92
         (with_reducible refine OR.out.mono ?_)
         rintro e w3 ⟨rfl, rfl⟩)
      | fail)
  go_wp2
  go_ret
  exact ⟨rfl, HK3.out, HB.out, keeps_set _ _ _ _⟩

theorem keeping_any (b : Nat) (w : World) :
    Calls Tryz.prog 65 #[.pointer (some ⟨b, 0, none⟩)] w fun e w' => e = .returned (.func (.func 91) #[] #[.pointer (some ⟨w.heap.size, 0, none⟩)]) ∧ w' = w.alloc (.cells #[.pointer (some ⟨b, 0, none⟩)] 64) := by
  go_enter Tryz.func65, Tryz.ntmps65
  go_wp2
  go_ret
  exact ⟨rfl, rfl⟩

def L140 : Nat := 10 ^ 140
theorem pow_mul_lim (a b : Nat) (h : a + b ≤ 300) : 10 ^ a * 10 ^ b ≤ LIM := by
  rw [← Nat.pow_add]
  exact lim_pow h
theorem mul_lim {a b : Nat} (ha : a < L140) (hb : b < L140) : a * b < LIM :=
  Nat.lt_of_lt_of_le (Ra.mul_lt ha hb) (pow_mul_lim 140 140 (by omega))
theorem mul_tx (a b : Nat) (w : World) (hp : Pow w.heap.size w) (ha : a < L140) (hb : b < L140) :
    Calls Tryz.prog 66 #[.string (tx a), .string (tx b)] w fun e w' => e = .returned (.tuple #[.string (tx (a * b)), .int .i64 0]) ∧ Below w.heap.size w w' := by
  have la : a < LIM := Nat.lt_of_lt_of_le ha (lim_pow (by omega))
  have lb : b < LIM := Nat.lt_of_lt_of_le hb (lim_pow (by omega))
  have := mulF (tx a) (tx b) w (tx_len la) (tx_len lb) hp
  rw [opF_ok _ _ _ (isB_txl la) (isB_txl lb) (by rw [nv_tx, nv_tx]; exact mul_lim ha hb), nv_tx, nv_tx] at this
  exact this

theorem size_al (w : World) (o : Obj) : (w.alloc o).heap.size = w.heap.size + 1 := Array.size_push ..

def ob (r : R3) : Obj := .cells #[.bool r.1, .string r.2.1, .string r.2.2] 23
theorem At.ob (w : World) (r : R3) : At (w.alloc (ob r)) w.heap.size r := heap_alloc_new _ _

theorem start5 (w : World) (r1 r2 r3 : R3) (w5 : World) (h : w5 = ((((w.alloc (ob r1)).alloc (ob r2)).alloc (ob r3)).alloc (.cells #[.int .i64 0] 26)).alloc (.cells #[.pointer (some ⟨w.heap.size + 1 + 1 + 1, 0, none⟩)] 64)) :
    Below w.heap.size w w5 ∧ At w5 w.heap.size r1 ∧ At w5 (w.heap.size + 1) r2 ∧ At w5 (w.heap.size + 1 + 1) r3 ∧ Kp w5 (w.heap.size + 1 + 1 + 1 + 1) (w.heap.size + 1 + 1 + 1) := by
  obtain ⟨w1, e1⟩ : ∃ v, v = w.alloc (ob r1) := ⟨_, rfl⟩
  obtain ⟨w2, e2⟩ : ∃ v, v = w1.alloc (ob r2) := ⟨_, rfl⟩
  obtain ⟨w3, e3⟩ : ∃ v, v = w2.alloc (ob r3) := ⟨_, rfl⟩
  obtain ⟨w4, e4⟩ : ∃ v, v = w3.alloc (.cells #[.int .i64 0] 26) := ⟨_, rfl⟩
  rw [← e1, ← e2, ← e3, ← e4] at h
  have s1 : w1.heap.size = w.heap.size + 1 := by rw [e1]; exact size_al _ _
  have s2 : w2.heap.size = w.heap.size + 1 + 1 := by rw [e2, size_al, s1]
  have s3 : w3.heap.size = w.heap.size + 1 + 1 + 1 := by rw [e3, size_al, s2]
  have s4 : w4.heap.size = w.heap.size + 1 + 1 + 1 + 1 := by rw [e4, size_al, s3]
  have b1 : Below w.heap.size w w1 := by rw [e1]; exact al _ _
  have b2 : Below w1.heap.size w1 w2 := by rw [e2]; exact al _ _
  have b3 : Below w2.heap.size w2 w3 := by rw [e3]; exact al _ _
  have b4 : Below w3.heap.size w3 w4 := by rw [e4]; exact al _ _
  have b5 : Below w4.heap.size w4 w5 := by rw [h]; exact al _ _
  have a1 : At w1 w.heap.size r1 := by rw [e1]; exact At.ob _ _
  have a2 : At w2 (w.heap.size + 1) r2 := by rw [e2, ← s1]; exact At.ob _ _
  have a3 : At w3 (w.heap.size + 1 + 1) r3 := by rw [e3, ← s2]; exact At.ob _ _
  have k4 : w4.heap[w.heap.size + 1 + 1 + 1]? = some (.cells #[.int .i64 0] 26 (0, 0)) := by rw [e4, ← s3]; exact heap_alloc_new _ _
  have k5 : w5.heap[w.heap.size + 1 + 1 + 1 + 1]? = some (.cells #[.pointer (some ⟨w.heap.size + 1 + 1 + 1, 0, none⟩)] 64 (0, 0)) := by rw [h, ← s4]; exact heap_alloc_new _ _
  refine ⟨Nb (Nb (Nb (Nb b1 b2) b3) b4) b5, (((a1.bt b2).bt b3).bt b4).bt b5, ((a2.bt b3).bt b4).bt b5, (a3.bt b4).bt b5, k5, ?_, by omega⟩
  exact (b5.block _ (by omega)).trans k4

theorem Kp.lt {w : World} {g b : Nat} (h : Kp w g b) : g < w.heap.size := (Array.getElem?_eq_some_iff.1 h.1).1
theorem Bd (w : World) : Below w.heap.size w w.drew := drewN_below w 1
theorem At.far {w : World} {k b : Nat} {r : R3} (h : At w k r) (hn : k ≠ b) (q : R3) : At (((w.setCell ⟨b, 0, none⟩ (.bool q.1)).setCell ⟨b, 1, none⟩ (.string q.2.1)).setCell ⟨b, 2, none⟩ (.string q.2.2)) k r := by
  unfold At at h ⊢
  rw [Below.heap_setCell _ _ _ _ hn, Below.heap_setCell _ _ _ _ hn, Below.heap_setCell _ _ _ _ hn]
  exact h
theorem six {w : World} {p q : Nat} {s t : Bool} {a b c d : ByteArray} (h : At w p (s, a, b)) (k : At w q (t, c, d)) : w.cell? ⟨p, 0, none⟩ = some (.bool s) ∧ w.cell? ⟨p, 1, none⟩ = some (.string a) ∧ w.cell? ⟨p, 2, none⟩ = some (.string b) ∧ w.cell? ⟨q, 0, none⟩ = some (.bool t) ∧ w.cell? ⟨q, 1, none⟩ = some (.string c) ∧ w.cell? ⟨q, 2, none⟩ = some (.string d) :=
  ⟨h.cells.1, h.cells.2.1, h.cells.2.2.1, k.cells.1, k.cells.2.1, k.cells.2.2.1⟩

theorem Kp.far {w : World} {g k b : Nat} (h : Kp w g k) (hg : g ≠ b) (hk : k ≠ b) (q : R3) : Kp (((w.setCell ⟨b, 0, none⟩ (.bool q.1)).setCell ⟨b, 1, none⟩ (.string q.2.1)).setCell ⟨b, 2, none⟩ (.string q.2.2)) g k := by
  obtain ⟨h1, h2, h3⟩ := h
  refine ⟨?_, ?_, h3⟩
  · rw [Below.heap_setCell _ _ _ _ hg, Below.heap_setCell _ _ _ _ hg, Below.heap_setCell _ _ _ _ hg]; exact h1
  · rw [Below.heap_setCell _ _ _ _ hk, Below.heap_setCell _ _ _ _ hk, Below.heap_setCell _ _ _ _ hk]; exact h2
theorem Bset2 {w v : World} {B b : Nat} (h : Below B w v) (hb : B ≤ b) (x y z : Value) : Below B w (((v.setCell ⟨b, 0, none⟩ x).setCell ⟨b, 1, none⟩ y).setCell ⟨b, 2, none⟩ z) :=
  ((h.setCell (p := ⟨b, 0, none⟩) hb _).setCell (p := ⟨b, 1, none⟩) hb _).setCell (p := ⟨b, 2, none⟩) hb _
theorem fourr {w : World} {b g e : Nat} {s : Bool} {n d : ByteArray} (h : At w b (s, n, d)) (k : Kp w g e) : w.cell? ⟨b, 0, none⟩ = some (.bool s) ∧ w.cell? ⟨b, 1, none⟩ = some (.string n) ∧ w.cell? ⟨b, 2, none⟩ = some (.string d) ∧ w.cell? ⟨e, 0, none⟩ = some (.int .i64 0) :=
  ⟨h.cells.1, h.cells.2.1, h.cells.2.2.1, k.cells.2.1⟩
theorem gen {α : Type} {P : α → Prop} (x : α) (h : ∀ W, W = x → P W) : P x := h x rfl
/- The world behind the last store: all that is needed of it. -/
theorem fin_old {w v : World} {p b g e : Nat} {r q0 : R3} (hb : Below p w v) (hp : p = w.heap.size) (R : At v (p + 1 + 1) r) (K : Kp v g e) (X : At v b q0) (hn : p + 1 + 1 + 1 + 1 < b) (hg : g = p + 1 + 1 + 1 + 1) (he : e = p + 1 + 1 + 1) (q : R3) (W : World)
    (hW : W = (((v.setCell ⟨b, 0, none⟩ (.bool q.1)).setCell ⟨b, 1, none⟩ (.string q.2.1)).setCell ⟨b, 2, none⟩ (.string q.2.2))) : Below p w W ∧ At W (p + 1 + 1) r ∧ Kp W g e ∧ At W b q := by
  subst hW
  exact ⟨Bset2 hb (by omega) _ _ _, R.far (by omega) q, K.far (by omega) (by omega) q, X.set _ _ _⟩
theorem fin_new {w v : World} {p g e : Nat} {r : R3} (hb : Below p w v) (hp : p = w.heap.size) (R : At v (p + 1 + 1) r) (K : Kp v g e) (q : R3) (W : World)
    (hW : W = v.alloc (.cells #[.bool q.1, .string q.2.1, .string q.2.2] 23)) : Below p w W ∧ At W (p + 1 + 1) r ∧ Kp W g e ∧ At W v.heap.size q := by
  subst hW hp
  exact ⟨Nb hb (al _ _), R.bt (al _ _), K.bt (al _ _), heap_alloc_new _ _⟩
theorem farsix {w : World} {p b : Nat} {s t : Bool} {x y z u : ByteArray} {r : R3} (h : At w p (s, x, z)) (k : At w (p + 1) (t, y, u)) (_ : At w b r) (hn : p + 1 + 1 + 1 + 1 < b) (q : R3) :
    (((w.setCell ⟨b, 0, none⟩ (.bool q.1)).setCell ⟨b, 1, none⟩ (.string q.2.1)).setCell ⟨b, 2, none⟩ (.string q.2.2)).cell? ⟨p, 0, none⟩ = some (.bool s) ∧ (((w.setCell ⟨b, 0, none⟩ (.bool q.1)).setCell ⟨b, 1, none⟩ (.string q.2.1)).setCell ⟨b, 2, none⟩ (.string q.2.2)).cell? ⟨p, 1, none⟩ = some (.string x) ∧ (((w.setCell ⟨b, 0, none⟩ (.bool q.1)).setCell ⟨b, 1, none⟩ (.string q.2.1)).setCell ⟨b, 2, none⟩ (.string q.2.2)).cell? ⟨p, 2, none⟩ = some (.string z) ∧ (((w.setCell ⟨b, 0, none⟩ (.bool q.1)).setCell ⟨b, 1, none⟩ (.string q.2.1)).setCell ⟨b, 2, none⟩ (.string q.2.2)).cell? ⟨p + 1, 0, none⟩ = some (.bool t) ∧ (((w.setCell ⟨b, 0, none⟩ (.bool q.1)).setCell ⟨b, 1, none⟩ (.string q.2.1)).setCell ⟨b, 2, none⟩ (.string q.2.2)).cell? ⟨p + 1, 1, none⟩ = some (.string y) ∧ (((w.setCell ⟨b, 0, none⟩ (.bool q.1)).setCell ⟨b, 1, none⟩ (.string q.2.1)).setCell ⟨b, 2, none⟩ (.string q.2.2)).cell? ⟨p + 1, 2, none⟩ = some (.string u) :=
  six (h.far (show p ≠ b by omega) q) (k.far (show p + 1 ≠ b by omega) q)
end Go.Proofs.YtmnnaaifebajnaaGreatDoor
