import Derived.Test.YtkbncdcphohmiaaGreatDoorRaAF
import Derived.Deep.DeepCutAuto
/- Package ratio: sums that are not reduced yet. -/
set_option linter.unusedSimpArgs false
set_option linter.unusedVariables false
namespace Go.Proofs.YtkbncdcphohmiaaGreatDoor
open Go.RowKit
open Ra (Fit)
set_option maxRecDepth 100000

theorem start3 (w : World) (r1 r2 r3 : R3) (w3 : World) (h : w3 = ((w.alloc (ob r1)).alloc (ob r2)).alloc (ob r3)) :
    Below w.heap.size w w3 ∧ At w3 w.heap.size r1 ∧ At w3 (w.heap.size + 1) r2 ∧ At w3 (w.heap.size + 1 + 1) r3 ∧ w.heap.size + 1 + 1 < w3.heap.size := by
  obtain ⟨w1, e1⟩ : ∃ v, v = w.alloc (ob r1) := ⟨_, rfl⟩
  obtain ⟨w2, e2⟩ : ∃ v, v = w1.alloc (ob r2) := ⟨_, rfl⟩
  rw [← e1, ← e2] at h
  have s1 : w1.heap.size = w.heap.size + 1 := by rw [e1]; exact size_al _ _
  have s2 : w2.heap.size = w.heap.size + 1 + 1 := by rw [e2, size_al, s1]
  have s3 : w3.heap.size = w.heap.size + 1 + 1 + 1 := by rw [h, size_al, s2]
  have b1 : Below w.heap.size w w1 := by rw [e1]; exact al _ _
  have b2 : Below w1.heap.size w1 w2 := by rw [e2]; exact al _ _
  have b3 : Below w2.heap.size w2 w3 := by rw [h]; exact al _ _
  have a1 : At w1 w.heap.size r1 := by rw [e1]; exact At.ob _ _
  have a2 : At w2 (w.heap.size + 1) r2 := by rw [e2, ← s1]; exact At.ob _ _
  have a3 : At w3 (w.heap.size + 1 + 1) r3 := by rw [h, ← s2]; exact At.ob _ _
  exact ⟨Nb (Nb b1 b2) b3, (a1.bt b2).bt b3, a2.bt b3, a3, by omega⟩
theorem start2 (w : World) (w2 : World) (h : w2 = (w.alloc (.cells #[.int .i64 0] 28)).alloc (.cells #[.pointer (some ⟨w.heap.size, 0, none⟩)] 100)) :
    Below w.heap.size w w2 ∧ Kp w2 (w.heap.size + 1) w.heap.size := by
  obtain ⟨w1, e1⟩ : ∃ v, v = w.alloc (.cells #[.int .i64 0] 28) := ⟨_, rfl⟩
  rw [← e1] at h
  have s1 : w1.heap.size = w.heap.size + 1 := by rw [e1]; exact size_al _ _
  have b1 : Below w.heap.size w w1 := by rw [e1]; exact al _ _
  have b2 : Below w1.heap.size w1 w2 := by rw [h]; exact al _ _
  have k1 : w1.heap[w.heap.size]? = some (.cells #[.int .i64 0] 28 (0, 0)) := by rw [e1]; exact heap_alloc_new _ _
  have k2 : w2.heap[w.heap.size + 1]? = some (.cells #[.pointer (some ⟨w.heap.size, 0, none⟩)] 100 (0, 0)) := by rw [h, ← s1]; exact heap_alloc_new _ _
  exact ⟨Nb b1 b2, k2, (b2.block _ (by omega)).trans k1, by omega⟩
theorem Below.le {n : Nat} {w w' : World} (h : Below n w w') : w.heap.size ≤ w'.heap.size := h.size

/- One field of a number is stored. -/
theorem At.num {w : World} {b : Nat} {s : Bool} {n d : ByteArray} (h : At w b (s, n, d)) (x : ByteArray) : At (w.setCell ⟨b, 1, none⟩ (.string x)) b (s, x, d) := by
  unfold At at h ⊢
  exact heap_setCell_same w b 1 _ _ _ h
theorem At.sgn {w : World} {b : Nat} {s : Bool} {n d : ByteArray} (h : At w b (s, n, d)) (t : Bool) : At (w.setCell ⟨b, 0, none⟩ (.bool t)) b (t, n, d) := by
  unfold At at h ⊢
  exact heap_setCell_same w b 0 _ _ _ h
theorem At.off {w : World} {k b : Nat} {r : R3} (h : At w k r) (hn : k ≠ b) (i : Nat) (v : Value) : At (w.setCell ⟨b, i, none⟩ v) k r := by
  unfold At at h ⊢
  rw [Below.heap_setCell _ _ _ _ hn]
  exact h
theorem Kp.off {w : World} {g k b : Nat} (h : Kp w g k) (hg : g ≠ b) (hk : k ≠ b) (i : Nat) (v : Value) : Kp (w.setCell ⟨b, i, none⟩ v) g k := by
  obtain ⟨h1, h2, h3⟩ := h
  refine ⟨?_, ?_, h3⟩
  · rw [Below.heap_setCell _ _ _ _ hg]; exact h1
  · rw [Below.heap_setCell _ _ _ _ hk]; exact h2

/- What is known of the world while sum runs: its two arguments, its result, the first error. -/
structure SumW (w v : World) (p : Nat) (r1 r2 r3 : R3) (g b : Nat) : Prop where
  hb : Below p w v
  A : At v p r1
  D : At v (p + 1) r2
  R : At v (p + 1 + 1) r3
  K : Kp v g b
  n1 : p + 1 + 1 < b
  n2 : p + 1 + 1 < g
  n3 : b < g
theorem SumW.bt {w v v' : World} {p g b : Nat} {r1 r2 r3 : R3} (h : SumW w v p r1 r2 r3 g b) (hp : p = w.heap.size) (hv : Below v.heap.size v v') : SumW w v' p r1 r2 r3 g b := by
  subst hp
  exact ⟨Nb h.hb hv, h.A.bt hv, h.D.bt hv, h.R.bt hv, h.K.bt hv, h.n1, h.n2, h.n3⟩
theorem SumW.dr {w v : World} {g b : Nat} {r1 r2 r3 : R3} (h : SumW w v w.heap.size r1 r2 r3 g b) : SumW w v.drew w.heap.size r1 r2 r3 g b := h.bt rfl (Bd v)
theorem SumW.al {w v : World} {g b : Nat} {r1 r2 r3 : R3} (h : SumW w v w.heap.size r1 r2 r3 g b) (o : Obj) : SumW w (v.alloc o) w.heap.size r1 r2 r3 g b := h.bt rfl (Go.Proofs.YtkbncdcphohmiaaGreatDoor.al v o)
theorem SumW.le {w v : World} {p g b : Nat} {r1 r2 r3 : R3} (h : SumW w v p r1 r2 r3 g b) : p ≤ b := by have := h.n1; omega
theorem SumW.lt {w v : World} {p g b : Nat} {r1 r2 r3 : R3} (h : SumW w v p r1 r2 r3 g b) : g < v.heap.size ∧ b < v.heap.size ∧ p + 1 + 1 < v.heap.size := by
  have h1 := h.K.lt
  have h2 := h.n2
  have h3 := h.n3
  exact ⟨h1, by omega, by omega⟩
theorem SumW.kept {w v v' : World} {g b : Nat} {r1 r2 r3 : R3} (h : SumW w v w.heap.size r1 r2 r3 g b) (K : Kp v' g b) (hb : Below w.heap.size v v') (hk : Keeps b v v') : SumW w v' w.heap.size r1 r2 r3 g b := by
  have h1 := h.n1
  exact ⟨Below.trans h.hb hb, h.A.keeps hk (by omega), h.D.keeps hk (by omega), h.R.keeps hk (by omega), K, h.n1, h.n2, h.n3⟩
theorem SumW.store {w v : World} {g b k : Nat} {r1 r2 r3 : R3} (h : SumW w v w.heap.size r1 r2 r3 g b) (hk : w.heap.size + 1 + 1 < k) (hg : k ≠ g) (hb : k ≠ b) (i : Nat) (x : Value) : SumW w (v.setCell ⟨k, i, none⟩ x) w.heap.size r1 r2 r3 g b :=
  ⟨h.hb.setCell (p := ⟨k, i, none⟩) (show w.heap.size ≤ k by omega) _, h.A.off (by omega) _ _, h.D.off (by omega) _ _, h.R.off (by omega) _ _, h.K.off (by omega) (by omega) _ _, h.n1, h.n2, h.n3⟩
theorem SumW.farsix {w v : World} {g b k : Nat} {s t : Bool} {x y z u : ByteArray} {r3 r : R3} (h : SumW w v w.heap.size (s, x, z) (t, y, u) r3 g b) (_ : At v k r) (hn : g < k ∧ b < k ∧ w.heap.size + 1 + 1 < k) (q : R3) :
    (((v.setCell ⟨k, 0, none⟩ (.bool q.1)).setCell ⟨k, 1, none⟩ (.string q.2.1)).setCell ⟨k, 2, none⟩ (.string q.2.2)).cell? ⟨w.heap.size, 0, none⟩ = some (.bool s) ∧ (((v.setCell ⟨k, 0, none⟩ (.bool q.1)).setCell ⟨k, 1, none⟩ (.string q.2.1)).setCell ⟨k, 2, none⟩ (.string q.2.2)).cell? ⟨w.heap.size, 1, none⟩ = some (.string x) ∧ (((v.setCell ⟨k, 0, none⟩ (.bool q.1)).setCell ⟨k, 1, none⟩ (.string q.2.1)).setCell ⟨k, 2, none⟩ (.string q.2.2)).cell? ⟨w.heap.size, 2, none⟩ = some (.string z) ∧ (((v.setCell ⟨k, 0, none⟩ (.bool q.1)).setCell ⟨k, 1, none⟩ (.string q.2.1)).setCell ⟨k, 2, none⟩ (.string q.2.2)).cell? ⟨w.heap.size + 1, 0, none⟩ = some (.bool t) ∧ (((v.setCell ⟨k, 0, none⟩ (.bool q.1)).setCell ⟨k, 1, none⟩ (.string q.2.1)).setCell ⟨k, 2, none⟩ (.string q.2.2)).cell? ⟨w.heap.size + 1, 1, none⟩ = some (.string y) ∧ (((v.setCell ⟨k, 0, none⟩ (.bool q.1)).setCell ⟨k, 1, none⟩ (.string q.2.1)).setCell ⟨k, 2, none⟩ (.string q.2.2)).cell? ⟨w.heap.size + 1, 2, none⟩ = some (.string u) := by
  have F := ((h.store (k := k) (by omega) (by omega) (by omega) 0 (.bool q.1)).store (k := k) (by omega) (by omega) (by omega) 1 (.string q.2.1)).store (k := k) (by omega) (by omega) (by omega) 2 (.string q.2.2)
  exact six F.A F.D
theorem sum_old {w v : World} {g b k : Nat} {r1 r2 r3 r : R3} (h : SumW w v w.heap.size r1 r2 r3 g b) (Y : At v k r) (hn : g < k ∧ b < k ∧ w.heap.size + 1 + 1 < k) (q : R3) : ∃ k', k = k' ∧ (g < k' ∧ b < k' ∧ w.heap.size + 1 + 1 < k') ∧ SumW w (((v.setCell ⟨k, 0, none⟩ (.bool q.1)).setCell ⟨k, 1, none⟩ (.string q.2.1)).setCell ⟨k, 2, none⟩ (.string q.2.2)) w.heap.size r1 r2 r3 g b ∧ At (((v.setCell ⟨k, 0, none⟩ (.bool q.1)).setCell ⟨k, 1, none⟩ (.string q.2.1)).setCell ⟨k, 2, none⟩ (.string q.2.2)) k' q :=
  ⟨k, rfl, hn, ((h.store (k := k) (by omega) (by omega) (by omega) 0 (.bool q.1)).store (k := k) (by omega) (by omega) (by omega) 1 (.string q.2.1)).store (k := k) (by omega) (by omega) (by omega) 2 (.string q.2.2), Y.set _ _ _⟩
theorem sum_new {w v : World} {g b : Nat} {r1 r2 r3 : R3} (h : SumW w v w.heap.size r1 r2 r3 g b) (q : R3) : ∃ k', v.heap.size = k' ∧ (g < k' ∧ b < k' ∧ w.heap.size + 1 + 1 < k') ∧ SumW w (v.alloc (ob q)) w.heap.size r1 r2 r3 g b ∧ At (v.alloc (ob q)) k' q :=
  ⟨_, rfl, h.lt, h.al _, At.ob _ _⟩

set_option maxHeartbeats 4000000 in
theorem sum_run (s t : Bool) (x z y u xy yx zu nn : ByteArray) (s2 : Bool) (y2 u2 : ByteArray) (rs : Bool) (c : Int) (w : World)
    (OP : Hid (∀ v, Below w.heap.size w v → Calls Tryz.prog 64 #[rV (t, y, u)] v fun e w' => e = .returned (rV (s2, y2, u2)) ∧ Below v.heap.size v w'))
    (hq : (s == s2 && (x.toList == y2.toList && z.toList == u2.toList)) = false)
    (M1 : Hid (∀ v, Below w.heap.size w v → Calls Tryz.prog 94 #[.string x, .string u] v fun e w' => e = .returned (.tuple #[.string xy, .int .i64 0]) ∧ Below v.heap.size v w'))
    (M2 : Hid (∀ v, Below w.heap.size w v → Calls Tryz.prog 94 #[.string y, .string z] v fun e w' => e = .returned (.tuple #[.string yx, .int .i64 0]) ∧ Below v.heap.size v w'))
    (M3 : Hid (∀ v, Below w.heap.size w v → Calls Tryz.prog 94 #[.string z, .string u] v fun e w' => e = .returned (.tuple #[.string zu, .int .i64 0]) ∧ Below v.heap.size v w'))
    (CM : Hid (∀ v, Below w.heap.size w v → Calls Tryz.prog 96 #[.string xy, .string yx] v fun e w' => e = .returned (.tuple #[.int .i64 c, .int .i64 0]) ∧ Below v.heap.size v w'))
    (hcase : ((s == t) = true ∧ rs = s ∧ Hid (∀ v, Below w.heap.size w v → Calls Tryz.prog 97 #[.string xy, .string yx] v fun e w' => e = .returned (.tuple #[.string nn, .int .i64 0]) ∧ Below v.heap.size v w')) ∨ ((s == t) = false ∧ 0 < c ∧ rs = s ∧ Hid (∀ v, Below w.heap.size w v → Calls Tryz.prog 80 #[.string xy, .string yx] v fun e w' => e = .returned (.tuple #[.string nn, .int .i64 0]) ∧ Below v.heap.size v w')) ∨ ((s == t) = false ∧ ¬ 0 < c ∧ rs = t ∧ Hid (∀ v, Below w.heap.size w v → Calls Tryz.prog 80 #[.string yx, .string xy] v fun e w' => e = .returned (.tuple #[.string nn, .int .i64 0]) ∧ Below v.heap.size v w'))) :
    Calls Tryz.prog 62 #[rV (s, x, z), rV (t, y, u)] w fun e w' => e = .returned (.tuple #[rV (rs, nn, zu), .int .i64 0]) ∧ Below w.heap.size w w' := by
  unfold rV at OP ⊢
  simp only at OP ⊢
  have KE := Lib.hid (fun b v => keeping_any b v)
  have KP := Lib.hid (fun (x : ByteArray) (g b : Nat) (v : World) (hk : Kp v g b) (hb : w.heap.size ≤ b) => kept_any x g b v hk w.heap.size hb)
  have HC := Lib.hid hcase
  have HQ := Lib.hid hq
  clear hcase hq
  obtain ⟨w3, h3⟩ : ∃ v, v = ((w.alloc (.cells #[.bool s, .string x, .string z] 32)).alloc (.cells #[.bool t, .string y, .string u] 32)).alloc (.cells #[.bool false, .string ⟨#[]⟩, .string ⟨#[]⟩] 32) := ⟨_, rfl⟩
  obtain ⟨hb3, A3, D3, R3, n3⟩ := start3 w (s, x, z) (t, y, u) (false, ⟨#[]⟩, ⟨#[]⟩) w3 h3
  have H3 := Lib.hid h3
  clear h3
  have S3 := Lib.hid (six A3 D3)
  have S3d := Lib.hid (six (A3.bt (Bd w3)) (D3.bt (Bd w3)))
  go_enter Tryz.func62, Tryz.ntmps62
  go_upto_region 1 with fail
  rw [← H3.out]
  clear H3
  go_cut [16] (fun s16 wx => s16 = .bool false ∧ Below w.heap.size w wx ∧ At wx w.heap.size (s, x, z) ∧ At wx (w.heap.size + 1) (t, y, u) ∧ At wx (w.heap.size + 1 + 1) (false, ⟨#[]⟩, ⟨#[]⟩) ∧ w.heap.size + 1 + 1 < wx.heap.size)
  case first =>
    have hq := HQ.out
    cases k1 : s == s2
    · clear hq
      go_region_held3 (fun w' => w'.cell? ⟨w.heap.size, 0, none⟩ = some (.bool s) ∧ w'.cell? ⟨w.heap.size, 1, none⟩ = some (.string x) ∧ w'.cell? ⟨w.heap.size, 2, none⟩ = some (.string z) ∧ w'.cell? ⟨w.heap.size + 1, 0, none⟩ = some (.bool t) ∧ w'.cell? ⟨w.heap.size + 1, 1, none⟩ = some (.string y) ∧ w'.cell? ⟨w.heap.size + 1, 2, none⟩ = some (.string u)) (first | exact S4.out | exact S3d.out | exact S3.out | go_keep)
        (first
          | (go_at_call 64
             (with_reducible refine (OP.out _ (Nb hb3 (Bd w3))).mono ?_)
             rintro e w4 ⟨rfl, g4⟩
             have hb4 := Nb (Nb hb3 (Bd w3)) g4
             have A4 := (A3.bt (Bd w3)).bt g4
             have D4 := (D3.bt (Bd w3)).bt g4
             have R4 := (R3.bt (Bd w3)).bt g4
             have n4 := Below.le (Nb (Bd w3) g4)
             have S4 := Lib.hid (six A4 D4))
          | fail)
      go_wp2_with fail
      go_meet
      exact ⟨rfl, hb4, A4, D4, R4, by omega⟩
    · cases k2 : x.toList == y2.toList
      · clear hq
        go_region_held3 (fun w' => w'.cell? ⟨w.heap.size, 0, none⟩ = some (.bool s) ∧ w'.cell? ⟨w.heap.size, 1, none⟩ = some (.string x) ∧ w'.cell? ⟨w.heap.size, 2, none⟩ = some (.string z) ∧ w'.cell? ⟨w.heap.size + 1, 0, none⟩ = some (.bool t) ∧ w'.cell? ⟨w.heap.size + 1, 1, none⟩ = some (.string y) ∧ w'.cell? ⟨w.heap.size + 1, 2, none⟩ = some (.string u)) (first | exact S4.out | exact S3d.out | exact S3.out | go_keep)
          (first
            | (go_at_call 64
               (with_reducible refine (OP.out _ (Nb hb3 (Bd w3))).mono ?_)
               rintro e w4 ⟨rfl, g4⟩
               have hb4 := Nb (Nb hb3 (Bd w3)) g4
               have A4 := (A3.bt (Bd w3)).bt g4
               have D4 := (D3.bt (Bd w3)).bt g4
               have R4 := (R3.bt (Bd w3)).bt g4
               have n4 := Below.le (Nb (Bd w3) g4)
               have S4 := Lib.hid (six A4 D4))
            | fail)
        go_wp2_with fail
        go_meet
        exact ⟨rfl, hb4, A4, D4, R4, by omega⟩
      · have k3 : (z.toList == u2.toList) = false := by rw [k1, k2] at hq; simpa using hq
        clear hq
        go_region_held3 (fun w' => w'.cell? ⟨w.heap.size, 0, none⟩ = some (.bool s) ∧ w'.cell? ⟨w.heap.size, 1, none⟩ = some (.string x) ∧ w'.cell? ⟨w.heap.size, 2, none⟩ = some (.string z) ∧ w'.cell? ⟨w.heap.size + 1, 0, none⟩ = some (.bool t) ∧ w'.cell? ⟨w.heap.size + 1, 1, none⟩ = some (.string y) ∧ w'.cell? ⟨w.heap.size + 1, 2, none⟩ = some (.string u)) (first | exact S4.out | exact S3d.out | exact S3.out | go_keep)
          (first
            | (go_at_call 64
               (with_reducible refine (OP.out _ (Nb hb3 (Bd w3))).mono ?_)
               rintro e w4 ⟨rfl, g4⟩
               have hb4 := Nb (Nb hb3 (Bd w3)) g4
               have A4 := (A3.bt (Bd w3)).bt g4
               have D4 := (D3.bt (Bd w3)).bt g4
               have R4 := (R3.bt (Bd w3)).bt g4
               have n4 := Below.le (Nb (Bd w3) g4)
               have S4 := Lib.hid (six A4 D4))
            | fail)
        go_wp2_with fail
        go_meet
        exact ⟨rfl, hb4, A4, D4, R4, by omega⟩
  case rest =>
    obtain ⟨rfl, hb4, A4, D4, R4, n4⟩ := hcut
    clear HQ OP S3 S3d hb3 A3 D3 R3 n3
    go_wp2_with fail
    refine (KE.out _ _).mono ?_
    rintro e w5 ⟨rfl, h5⟩
    have X5 : SumW w w5 w.heap.size (s, x, z) (t, y, u) (false, ⟨#[]⟩, ⟨#[]⟩) (wc.heap.size + 1) wc.heap.size :=
      ⟨Nb hb4 (start2 wc w5 h5).1, A4.bt (start2 wc w5 h5).1, D4.bt (start2 wc w5 h5).1, R4.bt (start2 wc w5 h5).1, (start2 wc w5 h5).2, by omega, by omega, by omega⟩
    clear h5 hb4 A4 D4 R4 KE n4
    go_upto_region 5 with fail
    generalize wc.heap.size + 1 = g at X5 ⊢
    generalize wc.heap.size = b at X5 ⊢
    have S5 := Lib.hid (six X5.A X5.D)
    have S5d := Lib.hid (six X5.dr.A X5.dr.D)
    go_cut [8, 9] (fun s8 s9 wx => s8 = .string xy ∧ s9 = .string yx ∧ SumW w wx w.heap.size (s, x, z) (t, y, u) (false, ⟨#[]⟩, ⟨#[]⟩) g b)
    case first =>
      go_region_held3 (fun w' => w'.cell? ⟨w.heap.size, 0, none⟩ = some (.bool s) ∧ w'.cell? ⟨w.heap.size, 1, none⟩ = some (.string x) ∧ w'.cell? ⟨w.heap.size, 2, none⟩ = some (.string z) ∧ w'.cell? ⟨w.heap.size + 1, 0, none⟩ = some (.bool t) ∧ w'.cell? ⟨w.heap.size + 1, 1, none⟩ = some (.string y) ∧ w'.cell? ⟨w.heap.size + 1, 2, none⟩ = some (.string u)) (first | exact S9.out | exact S8.out | exact S7.out | exact S6.out | exact S5d.out | exact S5.out | go_keep)
        (first
          | (go_at_call 94
             (with_reducible refine (M1.out _ X5.dr.hb).mono ?_)
             rintro e w6 ⟨rfl, g6⟩
             have X6 := X5.dr.bt rfl g6
             have S6 := Lib.hid (six X6.A X6.D))
          | (go_at_call 128
             (with_reducible refine (KP.out xy _ _ _ X6.K X6.le).mono ?_)
             rintro e w7 ⟨rfl, K7, g7, k7⟩
             have X7 := X6.kept K7 g7 k7
             have S7 := Lib.hid (six X7.A X7.D))
          | (go_at_call 94
             (with_reducible refine (M2.out _ X7.hb).mono ?_)
             rintro e w8 ⟨rfl, g8⟩
             have X8 := X7.bt rfl g8
             have S8 := Lib.hid (six X8.A X8.D))
          | (go_at_call 128
             (with_reducible refine (KP.out yx _ _ _ X8.K X8.le).mono ?_)
             rintro e w9 ⟨rfl, K9, g9, k9⟩
             have X9 := X8.kept K9 g9 k9
             have S9 := Lib.hid (six X9.A X9.D))
          | fail)
      go_wp2_with fail
      go_meet
      exact ⟨rfl, rfl, X9⟩
    case rest =>
      obtain ⟨rfl, rfl, X8⟩ := hcut
      clear S5 S5d X5
      revert X8
      generalize wc = w8
      intro X8
      have S8 := Lib.hid (six X8.A X8.D)
      have S8d := Lib.hid (six X8.dr.A X8.dr.D)
      have T8 := Lib.hid (six (X8.al (.cells #[.bool false, .string ⟨#[]⟩, .string ⟨#[]⟩] 32)).dr.A (X8.al (.cells #[.bool false, .string ⟨#[]⟩, .string ⟨#[]⟩] 32)).dr.D)
      go_upto_region 6 with fail
      go_cut [10] (fun s10 wx => ∃ k, s10 = .pointer (some ⟨k, 0, none⟩) ∧ (g < k ∧ b < k ∧ w.heap.size + 1 + 1 < k) ∧ SumW w wx w.heap.size (s, x, z) (t, y, u) (false, ⟨#[]⟩, ⟨#[]⟩) g b ∧ At wx k (s, ⟨#[]⟩, zu))
      case first =>
        go_region_held3 (fun w' => w'.cell? ⟨w.heap.size, 0, none⟩ = some (.bool s) ∧ w'.cell? ⟨w.heap.size, 1, none⟩ = some (.string x) ∧ w'.cell? ⟨w.heap.size, 2, none⟩ = some (.string z) ∧ w'.cell? ⟨w.heap.size + 1, 0, none⟩ = some (.bool t) ∧ w'.cell? ⟨w.heap.size + 1, 1, none⟩ = some (.string y) ∧ w'.cell? ⟨w.heap.size + 1, 2, none⟩ = some (.string u)) (first | exact SS.out | exact T10.out | exact S10.out | exact T9.out | exact S9.out | exact T8.out | exact S8d.out | exact S8.out | go_keep)
          (first
            | (go_at_call 94
               (with_reducible refine (M3.out _ X8.dr.hb).mono ?_)
               rintro e w9 ⟨rfl, g9⟩
               have X9 := X8.dr.bt rfl g9
               have S9 := Lib.hid (six X9.A X9.D)
               have T9 := Lib.hid (six (X9.al (.cells #[.bool false, .string ⟨#[]⟩, .string ⟨#[]⟩] 32)).A (X9.al (.cells #[.bool false, .string ⟨#[]⟩, .string ⟨#[]⟩] 32)).D))
            | (go_at_call 94
               (with_reducible refine (M3.out _ (X8.al (.cells #[.bool false, .string ⟨#[]⟩, .string ⟨#[]⟩] 32)).dr.hb).mono ?_)
               rintro e w9 ⟨rfl, g9⟩
               have X9 := (X8.al (.cells #[.bool false, .string ⟨#[]⟩, .string ⟨#[]⟩] 32)).dr.bt rfl g9
               have Y9 := (At.new w8 false ⟨#[]⟩ ⟨#[]⟩).bt (Nb (Bd _) g9)
               have S9 := Lib.hid (six X9.A X9.D)
               have N9 := X8.lt
               obtain ⟨b0, b1, b2, e0, e1, e2⟩ := Y9.cells)
            | (go_at_call 128
               (with_reducible refine (KP.out zu _ _ _ X9.K X9.le).mono ?_)
               rintro e w10 ⟨rfl, K10, g10, k10⟩
               have X10 := X9.kept K10 g10 k10
               have Y10 := Y9.keeps k10 (by have := N9; omega)
               have S10 := Lib.hid (six X10.A X10.D)
               have N10 := N9
               obtain ⟨b0, b1, b2, e0, e1, e2⟩ := Y10.cells
               have SS := Lib.hid (X10.farsix Y10 N10 (s, ⟨#[]⟩, zu)))
            | (go_at_call 128
               (with_reducible refine (KP.out zu _ _ _ X9.K X9.le).mono ?_)
               rintro e w10 ⟨rfl, K10, g10, k10⟩
               have X10 := X9.kept K10 g10 k10
               have S10 := Lib.hid (six X10.A X10.D)
               have T10 := Lib.hid (six (X10.al (.cells #[.bool false, .string ⟨#[]⟩, .string ⟨#[]⟩] 32)).A (X10.al (.cells #[.bool false, .string ⟨#[]⟩, .string ⟨#[]⟩] 32)).D)
               have SS := Lib.hid (six (X10.al (ob (s, ⟨#[]⟩, zu))).A (X10.al (ob (s, ⟨#[]⟩, zu))).D)
               unfold ob at SS)
            | (go_at_call 128
               (with_reducible refine (KP.out zu _ _ _ (X9.al (.cells #[.bool false, .string ⟨#[]⟩, .string ⟨#[]⟩] 32)).K (X9.al (.cells #[.bool false, .string ⟨#[]⟩, .string ⟨#[]⟩] 32)).le).mono ?_)
               rintro e w10 ⟨rfl, K10, g10, k10⟩
               have X10 := (X9.al (.cells #[.bool false, .string ⟨#[]⟩, .string ⟨#[]⟩] 32)).kept K10 g10 k10
               have Y10 := (At.new w9 false ⟨#[]⟩ ⟨#[]⟩).keeps k10 (by have := X9.lt; omega)
               have S10 := Lib.hid (six X10.A X10.D)
               have N10 := X9.lt
               obtain ⟨b0, b1, b2, e0, e1, e2⟩ := Y10.cells
               have SS := Lib.hid (X10.farsix Y10 N10 (s, ⟨#[]⟩, zu)))
            | fail)
        all_goals go_wp2_with fail
        all_goals go_meet
        · exact ⟨_, rfl, X10.lt, X10.al _, At.new _ _ _ _⟩
        · exact ⟨_, rfl, N10, ((X10.store (k := w9.heap.size) (by omega) (by omega) (by omega) 0 (.bool s)).store (k := w9.heap.size) (by omega) (by omega) (by omega) 1 (.string ⟨#[]⟩)).store (k := w9.heap.size) (by omega) (by omega) (by omega) 2 (.string zu), Y10.set _ _ _⟩
        · exact ⟨_, rfl, N10, ((X10.store (k := w8.heap.size) (by omega) (by omega) (by omega) 0 (.bool s)).store (k := w8.heap.size) (by omega) (by omega) (by omega) 1 (.string ⟨#[]⟩)).store (k := w8.heap.size) (by omega) (by omega) (by omega) 2 (.string zu), Y10.set _ _ _⟩
      case rest =>
        obtain ⟨k, rfl, hn, X11, Y11⟩ := hcut
        clear S8 S8d T8 X8 M1 M2 M3
        go_wp2_with fail
        refine (CM.out _ X11.hb).mono ?_
        rintro e w12 ⟨rfl, g12⟩
        have X12 := X11.bt rfl g12
        have Y12 := Y11.bt g12
        clear X11 Y11 CM
        rcases HC.out with ⟨h1, rfl, AD⟩ | ⟨h1, h2, rfl, AD⟩ | ⟨h1, h2, rfl, AD⟩
        · clear HC
          obtain ⟨a0, a1, a2, _, _, _⟩ := X12.A.cells
          obtain ⟨d0, d1, d2, _, _, _⟩ := X12.D.cells
          obtain ⟨y0, y1, y2, f0, f1, f2⟩ := Y12.cells
          have X13 := X12
          have Y13 := Y12
          go_wp2_with fail
          refine (AD.out _ X13.hb).mono ?_
          rintro e w14 ⟨rfl, g14⟩
          have X14 := X13.bt rfl g14
          have Y14 := Y13.bt g14
          clear X12 Y12 X13 Y13 a0 a1 a2 d0 d1 d2 y0 y1 y2 f0 f1 f2
          go_wp2_with fail
          refine (KP.out nn _ _ _ X14.K X14.le).mono ?_
          rintro e w15 ⟨rfl, K15, g15, k15⟩
          have X15 := X14.kept K15 g15 k15
          have Y15 := Y14.keeps k15 (by omega)
          clear X14 Y14
          obtain ⟨y0, y1, y2, f0, f1, f2⟩ := Y15.cells
          have XF := X15.store (k := k) (by omega) (by omega) (by omega) 1 (.string nn)
          have YF := Y15.num nn
          obtain ⟨W, hW⟩ : ∃ W, W = w15.setCell ⟨k, 1, none⟩ (.string nn) := ⟨_, rfl⟩
          rw [← hW] at XF YF
          have HW := Lib.hid hW
          clear hW
          go_upto_region 14 with fail
          rw [← HW.out]
          clear HW X15 Y15 y0 y1 y2 f0 f1 f2
          have hne : w.heap.size + 1 + 1 ≠ k := by omega
          have hn1 : w.heap.size + 1 + 1 ≠ b := by have := XF.n1; omega
          obtain ⟨r0, r1, r2, r3, r4, r5⟩ := (XF.R.bt (Bd W)).cells
          obtain ⟨x0, x1, x2, _, _, _⟩ := (YF.bt (Bd W)).cells
          obtain ⟨_, v1, _⟩ := (XF.K.bt (Bd W)).cells
          obtain ⟨q0, q1, q2, q3, q4, q5⟩ := XF.R.cells
          obtain ⟨z0, z1, z2, _, _, _⟩ := YF.cells
          obtain ⟨_, t1, _⟩ := XF.K.cells
          go_region
          go_wp2_with fail
          exact bodyPost_ret (out2 Tryz.results62 _ _ _ _ _ rfl rfl (show At _ _ _ from XF.R.set _ _ _)) rfl ⟨rfl, show Below _ _ _ from (Bset2 XF.hb (by omega) _ _ _).drew⟩
        · clear HC
          obtain ⟨a0, a1, a2, _, _, _⟩ := X12.A.cells
          obtain ⟨d0, d1, d2, _, _, _⟩ := X12.D.cells
          obtain ⟨y0, y1, y2, f0, f1, f2⟩ := Y12.cells
          have X13 := X12
          have Y13 := Y12
          go_wp2_with fail
          refine (AD.out _ X13.hb).mono ?_
          rintro e w14 ⟨rfl, g14⟩
          have X14 := X13.bt rfl g14
          have Y14 := Y13.bt g14
          clear X12 Y12 X13 Y13 a0 a1 a2 d0 d1 d2 y0 y1 y2 f0 f1 f2
          go_wp2_with fail
          refine (KP.out nn _ _ _ X14.K X14.le).mono ?_
          rintro e w15 ⟨rfl, K15, g15, k15⟩
          have X15 := X14.kept K15 g15 k15
          have Y15 := Y14.keeps k15 (by omega)
          clear X14 Y14
          obtain ⟨y0, y1, y2, f0, f1, f2⟩ := Y15.cells
          have XF := X15.store (k := k) (by omega) (by omega) (by omega) 1 (.string nn)
          have YF := Y15.num nn
          obtain ⟨W, hW⟩ : ∃ W, W = w15.setCell ⟨k, 1, none⟩ (.string nn) := ⟨_, rfl⟩
          rw [← hW] at XF YF
          have HW := Lib.hid hW
          clear hW
          go_upto_region 14 with fail
          rw [← HW.out]
          clear HW X15 Y15 y0 y1 y2 f0 f1 f2
          have hne : w.heap.size + 1 + 1 ≠ k := by omega
          have hn1 : w.heap.size + 1 + 1 ≠ b := by have := XF.n1; omega
          obtain ⟨r0, r1, r2, r3, r4, r5⟩ := (XF.R.bt (Bd W)).cells
          obtain ⟨x0, x1, x2, _, _, _⟩ := (YF.bt (Bd W)).cells
          obtain ⟨_, v1, _⟩ := (XF.K.bt (Bd W)).cells
          obtain ⟨q0, q1, q2, q3, q4, q5⟩ := XF.R.cells
          obtain ⟨z0, z1, z2, _, _, _⟩ := YF.cells
          obtain ⟨_, t1, _⟩ := XF.K.cells
          go_region
          go_wp2_with fail
          exact bodyPost_ret (out2 Tryz.results62 _ _ _ _ _ rfl rfl (show At _ _ _ from XF.R.set _ _ _)) rfl ⟨rfl, show Below _ _ _ from (Bset2 XF.hb (by omega) _ _ _).drew⟩
        · clear HC
          obtain ⟨a0, a1, a2, _, _, _⟩ := X12.A.cells
          obtain ⟨d0, d1, d2, _, _, _⟩ := X12.D.cells
          obtain ⟨y0, y1, y2, f0, f1, f2⟩ := Y12.cells
          have X13 := X12.store (k := k) (by omega) (by omega) (by omega) 0 (.bool rs)
          have Y13 := Y12.sgn rs
          go_wp2_with fail
          refine (AD.out _ X13.hb).mono ?_
          rintro e w14 ⟨rfl, g14⟩
          have X14 := X13.bt rfl g14
          have Y14 := Y13.bt g14
          clear X12 Y12 X13 Y13 a0 a1 a2 d0 d1 d2 y0 y1 y2 f0 f1 f2
          go_wp2_with fail
          refine (KP.out nn _ _ _ X14.K X14.le).mono ?_
          rintro e w15 ⟨rfl, K15, g15, k15⟩
          have X15 := X14.kept K15 g15 k15
          have Y15 := Y14.keeps k15 (by omega)
          clear X14 Y14
          obtain ⟨y0, y1, y2, f0, f1, f2⟩ := Y15.cells
          have XF := X15.store (k := k) (by omega) (by omega) (by omega) 1 (.string nn)
          have YF := Y15.num nn
          obtain ⟨W, hW⟩ : ∃ W, W = w15.setCell ⟨k, 1, none⟩ (.string nn) := ⟨_, rfl⟩
          rw [← hW] at XF YF
          have HW := Lib.hid hW
          clear hW
          go_upto_region 14 with fail
          rw [← HW.out]
          clear HW X15 Y15 y0 y1 y2 f0 f1 f2
          have hne : w.heap.size + 1 + 1 ≠ k := by omega
          have hn1 : w.heap.size + 1 + 1 ≠ b := by have := XF.n1; omega
          obtain ⟨r0, r1, r2, r3, r4, r5⟩ := (XF.R.bt (Bd W)).cells
          obtain ⟨x0, x1, x2, _, _, _⟩ := (YF.bt (Bd W)).cells
          obtain ⟨_, v1, _⟩ := (XF.K.bt (Bd W)).cells
          obtain ⟨q0, q1, q2, q3, q4, q5⟩ := XF.R.cells
          obtain ⟨z0, z1, z2, _, _, _⟩ := YF.cells
          obtain ⟨_, t1, _⟩ := XF.K.cells
          go_region
          go_wp2_with fail
          exact bodyPost_ret (out2 Tryz.results62 _ _ _ _ _ rfl rfl (show At _ _ _ from XF.R.set _ _ _)) rfl ⟨rfl, show Below _ _ _ from (Bset2 XF.hb (by omega) _ _ _).drew⟩

set_option maxHeartbeats 1000000 in
theorem sum_same (s t : Bool) (x z y u : ByteArray) (w : World) (hz : Zr w.heap.size w)
    (OP : Hid (∀ v, Below w.heap.size w v → Calls Tryz.prog 64 #[rV (t, y, u)] v fun e w' => e = .returned (rV (s, x, z)) ∧ Below v.heap.size v w')) :
    Calls Tryz.prog 62 #[rV (s, x, z), rV (t, y, u)] w fun e w' => e = .returned (.tuple #[rV (false, ⟨#[48]⟩, ⟨#[49]⟩), .int .i64 0]) ∧ Below w.heap.size w w' := by
  unfold rV at OP ⊢
  simp only at OP ⊢
  obtain ⟨w3, h3⟩ : ∃ v, v = ((w.alloc (.cells #[.bool s, .string x, .string z] 32)).alloc (.cells #[.bool t, .string y, .string u] 32)).alloc (.cells #[.bool false, .string ⟨#[]⟩, .string ⟨#[]⟩] 32) := ⟨_, rfl⟩
  obtain ⟨hb3, A3, D3, R3, n3⟩ := start3 w (s, x, z) (t, y, u) (false, ⟨#[]⟩, ⟨#[]⟩) w3 h3
  have H3 := Lib.hid h3
  clear h3
  have S3 := Lib.hid (six A3 D3)
  have S3d := Lib.hid (six (A3.bt (Bd w3)) (D3.bt (Bd w3)))
  go_enter Tryz.func62, Tryz.ntmps62
  go_upto_region 1 with fail
  rw [← H3.out]
  clear H3
  go_region_held3 (fun w' => w'.cell? ⟨w.heap.size, 0, none⟩ = some (.bool s) ∧ w'.cell? ⟨w.heap.size, 1, none⟩ = some (.string x) ∧ w'.cell? ⟨w.heap.size, 2, none⟩ = some (.string z) ∧ w'.cell? ⟨w.heap.size + 1, 0, none⟩ = some (.bool t) ∧ w'.cell? ⟨w.heap.size + 1, 1, none⟩ = some (.string y) ∧ w'.cell? ⟨w.heap.size + 1, 2, none⟩ = some (.string u)) (first | exact S4.out | exact S3d.out | exact S3.out | go_keep)
    (first
      | (go_at_call 64
         (with_reducible refine (OP.out _ (Nb hb3 (Bd w3))).mono ?_)
         rintro e w4 ⟨rfl, g4⟩
         have hb4 := Nb (Nb hb3 (Bd w3)) g4
         have A4 := (A3.bt (Bd w3)).bt g4
         have D4 := (D3.bt (Bd w3)).bt g4
         have R4 := (R3.bt (Bd w3)).bt g4
         have n4 := Below.le (Nb (Bd w3) g4)
         have S4 := Lib.hid (six A4 D4))
      | fail)
  obtain ⟨z0, z1, z2, _⟩ := hz.bt hb4
  obtain ⟨r0, r1, r2, f0, f1, f2⟩ := R4.cells
  go_wp2_with fail
  exact bodyPost_ret (out2 Tryz.results62 _ _ _ _ _ rfl rfl (show At _ _ _ from R4.set _ _ _)) rfl ⟨rfl, show Below _ _ _ from (Bset2 hb4 (by omega) _ _ _)⟩

end Go.Proofs.YtkbncdcphohmiaaGreatDoor

/- Package ratio: the sum of two numbers, not reduced. -/
set_option linter.unusedSimpArgs false
set_option linter.unusedVariables false
namespace Go.Proofs.YtkbncdcphohmiaaGreatDoor
open Go.RowKit
open Ra (Fit)
set_option maxRecDepth 100000

/- The sum of two rational numbers, not reduced. -/
def sumT (p q : Rat) : Bool × Nat × Nat :=
  if p = -q then (false, 0, 1)
  else if (decide (p < 0) == decide (q < 0)) = true then (decide (p < 0), p.num.natAbs * q.den + q.num.natAbs * p.den, p.den * q.den)
  else if q.num.natAbs * p.den < p.num.natAbs * q.den then (decide (p < 0), p.num.natAbs * q.den - q.num.natAbs * p.den, p.den * q.den)
  else (decide (q < 0), q.num.natAbs * p.den - p.num.natAbs * q.den, p.den * q.den)

theorem sumT_mk (p q : Rat) : Ra.mk (sumT p q).1 (sumT p q).2.1 (sumT p q).2.2 = p + q ∧ (sumT p q).2.2 ≠ 0 := by
  have hd : p.den ≠ 0 := p.den_nz
  have hd' : q.den ≠ 0 := q.den_nz
  have hm : p.den * q.den ≠ 0 := Nat.mul_ne_zero hd hd'
  have ep := Ra.mk_self p
  have eq := Ra.mk_self q
  unfold sumT
  by_cases h0 : p = -q
  · rw [if_pos h0]
    refine ⟨?_, by simp⟩
    rw [(Ra.mk_zero false 0 1 (by omega)).2 rfl, h0]
    grind
  · rw [if_neg h0]
    by_cases h1 : (decide (p < 0) == decide (q < 0)) = true
    · rw [if_pos h1]
      refine ⟨?_, hm⟩
      have h2 : decide (p < 0) = decide (q < 0) := by simpa using h1
      have := Ra.mk_add_same (decide (p < 0)) p.num.natAbs p.den q.num.natAbs q.den hd hd'
      rw [ep] at this
      rw [h2, eq] at this
      rw [h2]
      exact this.symm
    · rw [if_neg h1]
      have h2 : decide (q < 0) = !decide (p < 0) := by
        cases k1 : decide (p < 0) <;> cases k2 : decide (q < 0) <;> simp_all
      by_cases h3 : q.num.natAbs * p.den < p.num.natAbs * q.den
      · rw [if_pos h3]
        refine ⟨?_, hm⟩
        have := Ra.mk_add_ge (decide (p < 0)) p.num.natAbs p.den q.num.natAbs q.den hd hd' (by omega)
        rw [ep, ← h2, eq] at this
        exact this.symm
      · rw [if_neg h3]
        refine ⟨?_, hm⟩
        have := Ra.mk_add_le (decide (p < 0)) p.num.natAbs p.den q.num.natAbs q.den hd hd' (by omega)
        rw [ep, ← h2, eq] at this
        exact this.symm

theorem two_lim : 2 * (L140 * L140) ≤ LIM := by
  have h := pow_mul_lim 141 140 (by omega)
  rw [Nat.pow_succ, Nat.mul_right_comm] at h
  unfold L140
  generalize (10 : Nat) ^ 140 * 10 ^ 140 = P at *
  omega
theorem sumT_lt (p q : Rat) (hp : Fit L140 p) (hq : Fit L140 q) : (sumT p q).2.1 < LIM ∧ (sumT p q).2.2 < LIM := by
  have h1 : p.num.natAbs * q.den < L140 * L140 := Ra.mul_lt hp.1 hq.2
  have h2 : q.num.natAbs * p.den < L140 * L140 := Ra.mul_lt hq.1 hp.2
  have h3 : p.den * q.den < L140 * L140 := Ra.mul_lt hp.2 hq.2
  have h4 := two_lim
  generalize L140 * L140 = P at *
  unfold sumT
  split
  · dsimp only; omega
  · split
    · dsimp only; omega
    · split
      · dsimp only; omega
      · dsimp only; omega

def sumR (p q : Rat) : R3 := ((sumT p q).1, tx (sumT p q).2.1, tx (sumT p q).2.2)

theorem add_tx (a b : Nat) (w : World) (hp : Pow w.heap.size w) (ha : a < LIM) (hb : b < LIM) (h : a + b < LIM) :
    Calls Tryz.prog 97 #[.string (tx a), .string (tx b)] w fun e w' => e = .returned (.tuple #[.string (tx (a + b)), .int .i64 0]) ∧ Below w.heap.size w w' := by
  have := addF (tx a) (tx b) w (tx_len ha) (tx_len hb) hp
  rw [opF_ok _ _ _ (isB_txl ha) (isB_txl hb) (by rw [nv_tx, nv_tx]; exact h), nv_tx, nv_tx] at this
  exact this
theorem sub_tx (a b : Nat) (w : World) (hp : Pow w.heap.size w) (ha : a < LIM) (hb : b < LIM) (h : b ≤ a) :
    Calls Tryz.prog 80 #[.string (tx a), .string (tx b)] w fun e w' => e = .returned (.tuple #[.string (tx (a - b)), .int .i64 0]) ∧ Below w.heap.size w w' := by
  have := subtractF (tx a) (tx b) w (tx_len ha) (tx_len hb) hp
  rw [sub_spec _ _ (isB_txl ha) (isB_txl hb), nv_tx, nv_tx, if_neg (by omega)] at this
  exact this
theorem cmp_tx (a b : Nat) (w : World) (hp : Pow w.heap.size w) (ha : a < LIM) (hb : b < LIM) :
    Calls Tryz.prog 96 #[.string (tx a), .string (tx b)] w fun e w' => e = .returned (.tuple #[.int .i64 (cmpN a b), .int .i64 0]) ∧ Below w.heap.size w w' := by
  have := compareF (tx a) (tx b) w (tx_len ha) (tx_len hb)
  obtain ⟨h1, h2⟩ := cmp_make (s := tx a) (t := tx b) (c := (cmpF (tx a) (tx b)).1) (e := (cmpF (tx a) (tx b)).2) rfl (isB_txl ha) (isB_txl hb)
  rw [h1, h2, nv_tx, nv_tx] at this
  exact this

theorem toList_eq {x y : ByteArray} (h : x.toList = y.toList) : x = y := by
  rcases Decidable.em (x = y) with e | e
  · exact e
  · have := bytes_ne e
    rw [h] at this
    simp at this
theorem cmpN_pos {m n : Nat} (h : n < m) : 0 < cmpN m n := by
  unfold cmpN
  rw [if_neg (by omega), if_pos h]
  omega
theorem cmpN_not {m n : Nat} (h : ¬ n < m) : ¬ 0 < cmpN m n := by
  unfold cmpN
  rw [if_neg h]
  split <;> omega
theorem sum_rf (p q : Rat) (w : World) (hP : Pw w.heap.size w) (hp : Fit L140 p) (hq : Fit L140 q) :
    Calls Tryz.prog 62 #[rV (rf p), rV (rf q)] w fun e w' => e = .returned (.tuple #[rV (sumR p q), .int .i64 0]) ∧ Below w.heap.size w w' := by
  have OP := Lib.hid (fun v (h : Below w.heap.size w v) => opposite_rf q v (hP.bt h).2)
  by_cases h0 : p = -q
  · have : sumR p q = (false, ⟨#[48]⟩, ⟨#[49]⟩) := by
      unfold sumR sumT
      rw [if_pos h0, tx_zero, tx_one]
    rw [this]
    rw [← h0] at OP
    exact sum_same _ _ _ _ _ _ w hP.2 OP
  · have hne : rf p ≠ rf (-q) := fun h => h0 (rf_inj h)
    have hq2 : ((rf p).1 == (rf (-q)).1 && ((rf p).2.1.toList == (rf (-q)).2.1.toList && (rf p).2.2.toList == (rf (-q)).2.2.toList)) = false := by
      rw [← Bool.not_eq_true]
      intro hh
      simp only [Bool.and_eq_true, beq_iff_eq] at hh
      apply hne
      refine Prod.ext hh.1 (Prod.ext ?_ ?_)
      · exact toList_eq hh.2.1
      · exact toList_eq hh.2.2
    have la : p.num.natAbs < LIM := Nat.lt_of_lt_of_le hp.1 (lim_pow (by omega))
    have M1 := Lib.hid (fun v (h : Below w.heap.size w v) => mul_tx p.num.natAbs q.den v (hP.bt h).1 hp.1 hq.2)
    have M2 := Lib.hid (fun v (h : Below w.heap.size w v) => mul_tx q.num.natAbs p.den v (hP.bt h).1 hq.1 hp.2)
    have M3 := Lib.hid (fun v (h : Below w.heap.size w v) => mul_tx p.den q.den v (hP.bt h).1 hp.2 hq.2)
    have l1 : p.num.natAbs * q.den < LIM := mul_lim hp.1 hq.2
    have l2 : q.num.natAbs * p.den < LIM := mul_lim hq.1 hp.2
    have CM := Lib.hid (fun v (h : Below w.heap.size w v) => cmp_tx (p.num.natAbs * q.den) (q.num.natAbs * p.den) v (hP.bt h).1 l1 l2)
    obtain ⟨t1, _⟩ := sumT_lt p q hp hq
    unfold sumR
    unfold sumT at t1 ⊢
    rw [if_neg h0] at t1 ⊢
    by_cases h1 : (decide (p < 0) == decide (q < 0)) = true
    · rw [if_pos h1] at t1 ⊢
      refine sum_run (decide (p < 0)) (decide (q < 0)) _ _ _ _ _ _ _ _ _ _ _ _ _ w OP hq2 M1 M2 M3 CM ?_
      exact .inl ⟨h1, rfl, Lib.hid (fun v h => add_tx _ _ v (hP.bt h).1 l1 l2 t1)⟩
    · rw [if_neg h1] at t1 ⊢
      have h1' : (decide (p < 0) == decide (q < 0)) = false := by simpa using h1
      by_cases h3 : q.num.natAbs * p.den < p.num.natAbs * q.den
      · rw [if_pos h3]
        refine sum_run (decide (p < 0)) (decide (q < 0)) _ _ _ _ _ _ _ _ _ _ _ _ _ w OP hq2 M1 M2 M3 CM ?_
        exact .inr (.inl ⟨h1', cmpN_pos h3, rfl, Lib.hid (fun v h => sub_tx _ _ v (hP.bt h).1 l1 l2 (by omega))⟩)
      · rw [if_neg h3]
        refine sum_run (decide (p < 0)) (decide (q < 0)) _ _ _ _ _ _ _ _ _ _ _ _ _ w OP hq2 M1 M2 M3 CM ?_
        exact .inr (.inr ⟨h1', cmpN_not h3, rfl, Lib.hid (fun v h => sub_tx _ _ v (hP.bt h).1 l2 l1 (by omega))⟩)
end Go.Proofs.YtkbncdcphohmiaaGreatDoor
