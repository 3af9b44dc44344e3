/- Layer 7: Width, written, Same and Alike where they are true, all. -/
import Derived.Test.YtkbnaendlcjjbaaDoorLxH
set_option linter.unusedSimpArgs false
set_option linter.unusedVariables false
namespace Go.Proofs.YtkbnaendlcjjbaaDoor
open Go.RowKit
set_option maxRecDepth 100000

def Lx.tkA (t : Lx.Tk) : Value := .agg #[.int .i64 t.kind, .int .i64 (t.at' : Int), .int .i64 (t.n : Int), .string ⟨t.text.toArray⟩]
theorem Lx.bsize (l : List UInt8) : (⟨l.toArray⟩ : ByteArray).size = l.length := by simp [ByteArray.size]
theorem Lx.tkCells (w : World) (c0 c1 c2 c3 : Value) (T : TypeId) : (w.alloc (.cells #[c0, c1, c2, c3] T)).cell? ⟨w.heap.size, 0, none⟩ = some c0 ∧ (w.alloc (.cells #[c0, c1, c2, c3] T)).cell? ⟨w.heap.size, 1, none⟩ = some c1 ∧ (w.alloc (.cells #[c0, c1, c2, c3] T)).cell? ⟨w.heap.size, 2, none⟩ = some c2 ∧ (w.alloc (.cells #[c0, c1, c2, c3] T)).cell? ⟨w.heap.size, 3, none⟩ = some c3 := by
  have h := heap_alloc_new w (.cells #[c0, c1, c2, c3] T)
  generalize w.alloc (.cells #[c0, c1, c2, c3] T) = W at h
  simp [World.cell?, h]
theorem Lx.width_any (t : Lx.Tk) (w : World) (ht : t.text.length < 2 ^ 40) : Calls Tryd.prog 15 #[.agg #[.int .i64 t.kind, .int .i64 (t.at' : Int), .int .i64 (t.n : Int), .string ⟨t.text.toArray⟩]] w fun e w' => e = .returned (.int .i64 (t.wd : Int)) ∧ Below w.heap.size w w' := by
  have HB := Lib.hid (Lx.al w (.cells #[.int .i64 t.kind, .int .i64 (t.at' : Int), .int .i64 (t.n : Int), .string ⟨t.text.toArray⟩] 30))
  have hsz := Lx.bsize t.text
  by_cases hk : t.kind = 3
  · have HW : Hid (t.wd = t.text.length + 2) := Lib.hid (by unfold Lx.Tk.wd; rw [if_pos hk])
    rw [hk] at HB ⊢
    generalize t.wd = wd at *
    generalize (⟨t.text.toArray⟩ : ByteArray) = X at *
    have hwr : IntKind.i64.wrap ((X.size : Int) + 2) = (wd : Int) := by rw [IntKind.wrap_i64, HW.out]; omega
    clear hk HW hsz
    generalize (t.at' : Int) = a at *
    generalize (t.n : Int) = n at *
    go_enter Tryd.func15, Tryd.ntmps15
    obtain ⟨c0, c1, c2, c3⟩ := Lx.tkCells w (.int .i64 3) (.int .i64 a) (.int .i64 n) (.string X) 30
    go_wp2
    go_ret
    exact ⟨rfl, HB.out⟩
  · have HW : Hid (t.wd = t.text.length) := Lib.hid (by unfold Lx.Tk.wd; rw [if_neg hk])
    generalize t.wd = wd at *
    generalize (⟨t.text.toArray⟩ : ByteArray) = X at *
    have hwr : (X.size : Int) = (wd : Int) := by rw [HW.out, hsz]
    have HWR := Lib.hid hwr
    have hk2 : (t.kind == 3) = false := by simpa using hk
    clear hk HW hsz hwr
    generalize (t.at' : Int) = a at *
    generalize (t.n : Int) = n at *
    generalize t.kind = kd at *
    go_enter Tryd.func15, Tryd.ntmps15
    obtain ⟨c0, c1, c2, c3⟩ := Lx.tkCells w (.int .i64 kd) (.int .i64 a) (.int .i64 n) (.string X) 30
    go_wp2
    go_ret
    exact ⟨by rw [← HWR.out]; rfl, HB.out⟩
theorem Lx.bytes_str (t : Lx.Tk) : (t.kind = 3 → (⟨t.bytes.toArray⟩ : ByteArray) = ⟨#[34]⟩ ++ ⟨t.text.toArray⟩ ++ ⟨#[34]⟩) ∧ (t.kind ≠ 3 → (⟨t.bytes.toArray⟩ : ByteArray) = ⟨t.text.toArray⟩) := by
  unfold Lx.Tk.bytes
  refine ⟨fun h => ?_, fun h => ?_⟩
  · rw [if_pos h]
    apply ByteArray.ext
    simp
  · rw [if_neg h]
theorem Lx.written_any (t : Lx.Tk) (w : World) (ht : t.text.length < 2 ^ 40) : Calls Tryd.prog 16 #[.agg #[.int .i64 t.kind, .int .i64 (t.at' : Int), .int .i64 (t.n : Int), .string ⟨t.text.toArray⟩]] w fun e w' => e = .returned (.string ⟨t.bytes.toArray⟩) ∧ Below w.heap.size w w' := by
  have HB := Lib.hid (Lx.al w (.cells #[.int .i64 t.kind, .int .i64 (t.at' : Int), .int .i64 (t.n : Int), .string ⟨t.text.toArray⟩] 30))
  have hsz := Lx.bsize t.text
  obtain ⟨b1, b2⟩ := Lx.bytes_str t
  by_cases hk : t.kind = 3
  · rw [b1 hk]
    rw [hk] at HB ⊢
    generalize (⟨t.text.toArray⟩ : ByteArray) = X at *
    have hx : X.size < 2 ^ 40 := by omega
    have h34 : (⟨#[34]⟩ : ByteArray).size = 1 := rfl
    clear hk hsz b1 b2
    generalize (t.at' : Int) = a at *
    generalize (t.n : Int) = n at *
    go_enter Tryd.func16, Tryd.ntmps16
    obtain ⟨c0, c1, c2, c3⟩ := Lx.tkCells w (.int .i64 3) (.int .i64 a) (.int .i64 n) (.string X) 30
    go_wp2
    go_ret
    exact ⟨rfl, HB.out⟩
  · rw [b2 hk]
    generalize (⟨t.text.toArray⟩ : ByteArray) = X at *
    have hk2 : (t.kind == 3) = false := by simpa using hk
    clear hk hsz b1 b2
    generalize (t.at' : Int) = a at *
    generalize (t.n : Int) = n at *
    generalize t.kind = kd at *
    go_enter Tryd.func16, Tryd.ntmps16
    obtain ⟨c0, c1, c2, c3⟩ := Lx.tkCells w (.int .i64 kd) (.int .i64 a) (.int .i64 n) (.string X) 30
    go_wp2
    go_ret
    exact ⟨rfl, HB.out⟩

set_option maxHeartbeats 2000000 in
theorem Lx.alike_any (A1 A2 : Option Addr) (c1 c2 : Nat) (n : Nat) (l1 l2 : List Lx.Tk) (w : World) (hn1 : l1.length = n) (hn2 : l2.length = n) (hn : n ≤ 5000) (hl : Lx.bares l1 = Lx.bares l2) (h1 : TkS w w.heap.size 0 A1 l1) (h2 : TkS w w.heap.size 0 A2 l2) :
    Calls Tryd.prog 19 #[.slice A1 n c1, .slice A2 n c2] w fun e w' => e = .returned (.bool true) ∧ Below w.heap.size w w' := by
  have H1 := Lib.hid (fun (v : World) (hb : Below w.heap.size w v) => h1.bt hb)
  have H2 := Lib.hid (fun (v : World) (hb : Below w.heap.size w v) => h2.bt hb)
  have HN1 := Lib.hid hn1
  have HN2 := Lib.hid hn2
  have HL := Lib.hid hl
  clear h1 h2 hn1 hn2 hl
  go_enter Tryd.func19, Tryd.ntmps19
  go_wp2
  go_loopw [5] (fun i wr => ∃ k : Nat, k ≤ n ∧ i = .int .i64 (k : Int) ∧ Below w.heap.size w wr) (fun i _ => n - (intOf i).toNat)
  case atStart => exact ⟨0, by omega, rfl, Below.refl _ _⟩
  case round =>
    obtain ⟨k, hk, rfl, hb⟩ := hrel
    by_cases hlt : k < n
    · obtain ⟨g1, rfl, _, p0, p1, p2, p3⟩ := (H1.out wr hb).at0 k (by rw [HN1.out]; exact hlt)
      obtain ⟨g2, rfl, _, q0, q1, q2, q3⟩ := (H2.out wr hb).at0 k (by rw [HN2.out]; exact hlt)
      have e : (l1[k]'(by rw [HN1.out]; exact hlt)).bare = (l2[k]'(by rw [HN2.out]; exact hlt)).bare := by
        have := congrArg (·[k]?) HL.out
        simp only [Lx.bares, List.getElem?_map] at this
        rw [List.getElem?_eq_getElem (by rw [HN1.out]; exact hlt), List.getElem?_eq_getElem (by rw [HN2.out]; exact hlt)] at this
        exact Option.some.inj this
      generalize l1[k]'(by rw [HN1.out]; exact hlt) = t1 at *
      generalize l2[k]'(by rw [HN2.out]; exact hlt) = t2 at *
      simp only [Lx.Tk.bare, Prod.mk.injEq] at e
      obtain ⟨e1, e2, e3⟩ := e
      rw [← e1] at q0
      rw [← e2] at q2
      rw [← e3] at q3
      generalize t1.kind = kd at *
      generalize (t1.n : Int) = nn at *
      generalize (⟨t1.text.toArray⟩ : ByteArray) = X at *
      clear e1 e2 e3 p1 q1 H1 H2 HL HN1 HN2
      have hlt' : (k : Int) < (n : Int) := by omega
      have hk0 : (0 : Int) ≤ (k : Int) := by omega
      have g1e : (kd != kd) = false := by simp
      have g2e : (nn != nn) = false := by simp
      go_wp2_with fail
      go_quiet (fail)
      go_wp2_with fail
      exact ⟨⟨k + 1, by omega, by go_num, Lx.Nb hb (Lx.drewN_below _ _)⟩, by simp [intOf]; omega⟩
    · obtain rfl : k = n := by omega
      go_wp2_with fail
      go_ret
      exact ⟨rfl, hb⟩

set_option maxHeartbeats 2000000 in
theorem Lx.same_any (A1 A2 : Option Addr) (c1 c2 : Nat) (n d o1 o2 : Nat) (l1 l2 : List Lx.Tk) (w : World) (hn1 : l1.length = n) (hn2 : l2.length = n) (hn : n ≤ 5000) (hl : l2 = Lx.shift d l1) (hd : d < 2 ^ 40) (hsm : ∀ t ∈ l1, t.at' < 2 ^ 40) (h1 : TkS w w.heap.size o1 A1 l1) (h2 : TkS w w.heap.size o2 A2 l2) :
    Calls Tryd.prog 14 #[.slice A1 n c1, .int .i64 (d : Int), .slice A2 n c2] w fun e w' => e = .returned (.bool true) ∧ Below w.heap.size w w' := by
  have H1 := Lib.hid (fun (v : World) (hb : Below w.heap.size w v) => h1.bt hb)
  have H2 := Lib.hid (fun (v : World) (hb : Below w.heap.size w v) => h2.bt hb)
  have HN1 := Lib.hid hn1
  have HN2 := Lib.hid hn2
  have HL := Lib.hid hl
  have HSM := Lib.hid hsm
  clear h1 h2 hn1 hn2 hl hsm
  go_enter Tryd.func14, Tryd.ntmps14
  go_wp2
  go_loopw [7] (fun i wr => ∃ k : Nat, k ≤ n ∧ i = .int .i64 (k : Int) ∧ Below w.heap.size w wr) (fun i _ => n - (intOf i).toNat)
  case atStart => exact ⟨0, by omega, rfl, Below.refl _ _⟩
  case round =>
    obtain ⟨k, hk, rfl, hb⟩ := hrel
    by_cases hlt : k < n
    · obtain ⟨g1, rfl, _, p0, p1, p2, p3⟩ := (H1.out wr hb) k (by rw [HN1.out]; exact hlt)
      obtain ⟨g2, rfl, _, q0, q1, q2, q3⟩ := (H2.out wr hb) k (by rw [HN2.out]; exact hlt)
      have e : l2[k]'(by rw [HN2.out]; exact hlt) = { l1[k]'(by rw [HN1.out]; exact hlt) with at' := (l1[k]'(by rw [HN1.out]; exact hlt)).at' + d } := by
        have := congrArg (·[k]?) HL.out
        simp only [Lx.shift, List.getElem?_map] at this
        rw [List.getElem?_eq_getElem (by rw [HN2.out]; exact hlt), List.getElem?_eq_getElem (by rw [HN1.out]; exact hlt)] at this
        exact Option.some.inj this
      have hsm := HSM.out _ (List.getElem_mem (by rw [HN1.out]; exact hlt) : l1[k]'(by rw [HN1.out]; exact hlt) ∈ l1)
      rw [e] at q0 q1 q2 q3
      clear e
      generalize l1[k]'(by rw [HN1.out]; exact hlt) = t1 at *
      have hwr : IntKind.i64.wrap ((t1.at' : Int) + (d : Int)) = ((t1.at' + d : Nat) : Int) := by rw [IntKind.wrap_i64]; omega
      dsimp only at q0 q1 q2 q3
      generalize ((t1.at' + d : Nat) : Int) = at2 at *
      generalize (t1.at' : Int) = at1 at *
      generalize t1.kind = kd at *
      generalize (t1.n : Int) = nn at *
      generalize (⟨t1.text.toArray⟩ : ByteArray) = X at *
      clear H1 H2 HL HN1 HN2 HSM hsm
      have hlt' : (k : Int) < (n : Int) := by omega
      have hk0 : (0 : Int) ≤ (k : Int) := by omega
      obtain ⟨x0, x1, x2, x3⟩ := Lx.tkCells wr (.int .i64 kd) (.int .i64 at2) (.int .i64 nn) (.string X) 30
      have hba := Lx.al wr (.cells #[.int .i64 kd, .int .i64 at2, .int .i64 nn, .string X] 30)
      have q0' := Lx.cell_bt q0 hba
      have q1' := Lx.cell_bt q1 hba
      have q2' := Lx.cell_bt q2 hba
      have q3' := Lx.cell_bt q3 hba
      have HBA := Lib.hid (Lx.Nb hb (Lx.Nb hba (Lx.drewN_below _ 0)))
      go_wp2_with fail
      go_quiet (fail)
      go_wp2_with fail
      exact ⟨⟨k + 1, by omega, by go_num, Lx.Nb hb (Lx.Nb hba (Lx.drewN_below _ _))⟩, by simp [intOf]; omega⟩
    · obtain rfl : k = n := by omega
      go_wp2_with fail
      go_ret
      exact ⟨rfl, hb⟩

theorem Lx.allF_take (l : List Lx.Tk) (k : Nat) (hk : k < l.length) : Lx.allF (l.take (k + 1)) = Lx.allF (l.take k) ++ ((l[k]).bytes ++ [32]) := by
  have e : l.take (k + 1) = l.take k ++ [l[k]] := by
    rw [List.take_add_one, List.getElem?_eq_getElem hk]
    rfl
  unfold Lx.allF
  rw [e, List.flatMap_append, List.flatMap_singleton]
theorem Lx.allF_le (l : List Lx.Tk) (k : Nat) : (Lx.allF (l.take k)).length ≤ (Lx.allF l).length := by
  conv => rhs; rw [← List.take_append_drop k l]
  unfold Lx.allF
  rw [List.flatMap_append, List.length_append]
  omega
theorem Lx.app (a b : List UInt8) : (⟨(a ++ (b ++ [32])).toArray⟩ : ByteArray) = ⟨a.toArray⟩ ++ (⟨b.toArray⟩ ++ ⟨#[32]⟩) := by
  apply ByteArray.ext
  simp
set_option maxHeartbeats 2000000 in
theorem Lx.all_any (A : Option Addr) (c n : Nat) (l : List Lx.Tk) (w : World) (hn1 : l.length = n) (hn : n ≤ 5000) (hl : (Lx.allF l).length < 2 ^ 30) (h1 : TkS w w.heap.size 0 A l) :
    Calls Tryd.prog 18 #[.slice A n c] w fun e w' => e = .returned (.string ⟨(Lx.allF l).toArray⟩) ∧ Below w.heap.size w w' := by
  have H1 := Lib.hid (fun (v : World) (hb : Below w.heap.size w v) => h1.bt hb)
  have HN1 := Lib.hid hn1
  have HL := Lib.hid hl
  clear h1 hn1 hl
  go_enter Tryd.func18, Tryd.ntmps18
  go_wp2
  go_loopw [3, 4] (fun s i wr => ∃ (k : Nat) (X : ByteArray), k ≤ n ∧ i = .int .i64 (k : Int) ∧ s = .string X ∧ Hid (X = ⟨(Lx.allF (l.take k)).toArray⟩) ∧ Below w.heap.size w wr) (fun _ i _ => n - (intOf i).toNat)
  case atStart => exact ⟨0, ⟨#[]⟩, by omega, rfl, rfl, Lib.hid rfl, Below.refl _ _⟩
  case round =>
    obtain ⟨k, X, hk, rfl, rfl, HX, hb⟩ := hrel
    by_cases hlt : k < n
    · have hlt1 : k < l.length := by rw [HN1.out]; exact hlt
      obtain ⟨g1, rfl, _, p0, p1, p2, p3⟩ := (H1.out wr hb).at0 k hlt1
      have e := Lx.allF_take l k hlt1
      have hle := Lx.allF_le l (k + 1)
      have hXs : X.size = (Lx.allF (l.take k)).length := by rw [HX.out, Lx.bsize]
      have hbs := Lx.bsize (l[k]).bytes
      have htl : (l[k]).text.length ≤ (l[k]).bytes.length := by
        unfold Lx.Tk.bytes
        split
        · simp; omega
        · omega
      have hlen := congrArg List.length e
      simp only [List.length_append, List.length_cons, List.length_nil] at hlen
      have hLl := HL.out
      have CW := Lib.hid (fun v => Lx.written_any l[k] v (by omega))
      have HX' : Hid (X ++ (⟨(l[k]).bytes.toArray⟩ ++ ⟨#[32]⟩) = ⟨(Lx.allF (l.take (k + 1))).toArray⟩) := Lib.hid (by rw [e, Lx.app, ← HX.out])
      have hs1 : X.size < 2 ^ 30 := by omega
      have hs2 : (⟨(l[k]).bytes.toArray⟩ : ByteArray).size < 2 ^ 30 := by omega
      have hs3 : (⟨#[32]⟩ : ByteArray).size = 1 := rfl
      clear e hle hXs hbs htl hlen hLl HX
      generalize (⟨(l[k]).bytes.toArray⟩ : ByteArray) = Y at *
      generalize l[k] = t1 at *
      generalize t1.kind = kd at *
      generalize (t1.at' : Int) = at1 at *
      generalize (t1.n : Int) = nn at *
      generalize (⟨t1.text.toArray⟩ : ByteArray) = Z at *
      have hlt' : (k : Int) < (n : Int) := by omega
      have hk0 : (0 : Int) ≤ (k : Int) := by omega
      clear H1 HL HN1 hlt1
      go_wp2_with fail
      refine (CW.out _).mono ?_
      rintro e w1 ⟨rfl, hb1⟩
      clear CW
      go_wp2_with fail
      exact ⟨⟨k + 1, _, by omega, by go_num, rfl, HX', Lx.Nb hb hb1⟩, by simp [intOf]; omega⟩
    · obtain rfl : k = n := by omega
      have HE : Hid (X = ⟨(Lx.allF l).toArray⟩) := Lib.hid (by rw [HX.out, List.take_of_length_le (by rw [HN1.out]; exact Nat.le_refl _)])
      clear HX
      go_wp2_with fail
      go_ret
      exact ⟨by rw [← HE.out]; rfl, hb⟩
end Go.Proofs.YtkbnaendlcjjbaaDoor
