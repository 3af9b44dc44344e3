/- Layer 9: the program's Text. -/
import Derived.Test.YtcjlnmfbanknhaaDoorNmJ
import Derived.Lib.QuietBelow
set_option linter.unusedSimpArgs false
set_option linter.unusedVariables false
namespace Go.Proofs.YtcjlnmfbanknhaaDoor
open Go.RowKit Go.Shelf
set_option maxRecDepth 100000
set_option maxHeartbeats 1000000

theorem Nm.join_any (ss : List ByteArray) (A : Option Addr) (c : Nat) (w : World) (hs : Strs w w.heap.size A ss) (h1 : 1 ≤ ss.length) (h6 : ss.length ≤ 6) (hc : ss.length ≤ c) (hc2 : c ≤ maxLen) (hl : ∀ x ∈ ss, x.size ≤ 24) :
    Calls Tryd.prog 24 #[.slice A ss.length c, .string ⟨#[32]⟩] w fun e w' => e = .returned (.string (Nm.bt (Nm.join (ss.map fun x => x.data.toList)))) ∧ Below w.heap.size w w' := by
  match ss, hs, h1, h6, hc, hl with
  | [s], hs, _, _, _, _ =>
    have := Nm.join_one s A c w hs
    rwa [show Nm.bt (Nm.join ([s].map fun x => x.data.toList)) = s from by simp [Nm.bt, Nm.join]]
  | a :: b :: t, hs, _, h6, hc, hl => exact Nm.join_many (a :: b :: t) A c w hs (by simp) h6 hc hc2 hl
def Nm.title (s : Nat) : Nm.T := Nm.word s ++ [58]
def Nm.textL (s : Nat) (ws : List Nm.T) : Nm.T := Nm.title s ++ Nm.join ws
theorem Nm.word_le (s : Nat) : (Nm.word s).length ≤ 6 := by
  match s with
  | 0 => decide
  | 1 => decide
  | 2 => decide
  | 3 => decide
  | 4 => decide
  | n + 5 => simp [Nm.word]
theorem Nm.jl_le (ws : List Nm.T) (h : ∀ w ∈ ws, w.length ≤ 24) : Nm.jl ws ≤ 25 * ws.length := by
  induction ws with
  | nil => simp [Nm.jl]
  | cons w t ih =>
    have h1 := h w List.mem_cons_self
    have h2 := ih (fun x hx => h x (List.mem_cons_of_mem _ hx))
    rw [Nm.jl, List.length_cons]
    omega
theorem Nm.join_le (ws : List Nm.T) (h : ∀ w ∈ ws, w.length ≤ 24) (h6 : ws.length ≤ 6) : (Nm.join ws).length ≤ 150 := by
  by_cases h0 : ws = []
  · subst h0
    simp [Nm.join]
  · have := Nm.join_len ws h0
    have := Nm.jl_le ws h
    omega
theorem Nm.okN_iff {s : Nat} {ws : List Nm.T} (h : Nm.okN s ws = true) : (∀ w ∈ ws, Nm.isW s w = true) ∧ 1 ≤ ws.length ∧ ws.length ≤ 6 := by
  simpa [Nm.okN] using h
theorem Nm.textL_le {s : Nat} {ws : List Nm.T} (h : Nm.okN s ws = true) : (Nm.textL s ws).length ≤ 157 := by
  obtain ⟨h1, _, h3⟩ := Nm.okN_iff h
  have := Nm.word_le s
  have := Nm.join_le ws (fun w hw => Nm.isW_len (h1 w hw)) h3
  unfold Nm.textL Nm.title
  rw [List.length_append, List.length_append, List.length_singleton]
  omega

theorem Nm.field0 (a b c d : ByteArray) (w : World) : Sem.run Tryd.prog (Instr.field 42 (.agg #[.string a, .string b, .string c, .string d]) 0) w = .ok (.string a) w := by
  unfold Instr.field
  simp [go_sem, asAgg]
theorem Nm.text_ok (k : Int) (A : Option Addr) (c : Nat) (ss : List ByteArray) (w : World) (hok : Nm.okN (Nm.sc k) (ss.map fun x => x.data.toList) = true) (hs : Strs w w.heap.size A ss) (hc : ss.length ≤ c) (hc2 : c ≤ maxLen) (hm : ∀ x ∈ ss, x.size ≤ maxLen) (h : Nm.Tb w.heap.size w) :
    Calls Tryd.prog 11 #[.agg #[.int .i64 k, .slice A ss.length c]] w fun e w' => e = .returned (.tuple #[.string (Nm.bt (Nm.textL (Nm.sc k) (ss.map fun x => x.data.toList))), .int .i64 0]) ∧ Below w.heap.size w w' := by
  obtain ⟨hw, hn1, hn6⟩ := Nm.okN_iff hok
  rw [List.length_map] at hn1 hn6
  have hB := Nm.al w (.cells #[.int .i64 k, .slice A ss.length c] 24)
  have h24 : ∀ x ∈ ss, x.size ≤ 24 := fun x hx => by
    rw [Lib.size_eq]
    exact Nm.isW_len (hw _ (List.mem_map_of_mem hx))
  have hjl := Nm.join_le (ss.map fun x => x.data.toList) (fun z hz => Nm.isW_len (hw z hz)) (by simpa using hn6)
  have V1 := Lib.hid (fun v (hv : Below w.heap.size w v) => Nm.valid_any k A c ss v (Nm.sbt hs hv) (Nat.le_trans hc hc2) hm (h.bt hv))
  rw [hok] at V1
  have A1 := Lib.hid (fun v (hv : Below w.heap.size w v) => Nm.alphabetOf_any k v (h.bt hv))
  have J1 := Lib.hid (fun v (hv : Below w.heap.size w v) => Nm.join_any ss A c v (Nm.sbt hs hv) hn1 hn6 hc hc2 h24)
  have hwl : (Nm.fld (Nm.sc k) 0).size ≤ 6 := by
    rw [Lib.size_eq]
    show (Nm.bt (Nm.word _)).data.toList.length ≤ 6
    rw [Nm.bt_list]
    exact Nm.word_le _
  have hR : Hid (Nm.fld (Nm.sc k) 0 ++ ⟨#[58]⟩ ++ Nm.bt (Nm.join (ss.map fun x => x.data.toList)) = Nm.bt (Nm.textL (Nm.sc k) (ss.map fun x => x.data.toList))) := Lib.hid (by
    refine ByteArray.ext (Array.toList_inj.1 ?_)
    simp [Nm.textL, Nm.title, Nm.fld, Nm.bt])
  have hjs : (Nm.bt (Nm.join (ss.map fun x => x.data.toList))).size ≤ 150 := by rw [Lib.size_eq, Nm.bt_list]; exact hjl
  obtain ⟨J, hJ⟩ : ∃ J, Nm.bt (Nm.join (ss.map fun x => x.data.toList)) = J := ⟨_, rfl⟩
  obtain ⟨wd, hwd⟩ : ∃ wd, Nm.fld (Nm.sc k) 0 = wd := ⟨_, rfl⟩
  obtain ⟨al, hal⟩ : ∃ wd, Nm.fld (Nm.sc k) 1 = wd := ⟨_, rfl⟩
  obtain ⟨fi, hfi⟩ : ∃ wd, Nm.fld (Nm.sc k) 2 = wd := ⟨_, rfl⟩
  obtain ⟨se, hse⟩ : ∃ wd, Nm.fld (Nm.sc k) 3 = wd := ⟨_, rfl⟩
  rw [hJ] at J1 hR hjs
  rw [hwd] at A1 hR hwl
  rw [hal, hfi, hse] at A1
  have g1 : ¬ 9223372036854775807 < wd.size + 1 := by omega
  have g2 : ¬ 9223372036854775807 < wd.size + 1 + J.size := by omega
  have h0 := heap_alloc_new w (.cells #[.int .i64 k, .slice A ss.length c] 24)
  obtain ⟨n, hn⟩ : ∃ n, ss.length = n := ⟨_, rfl⟩
  rw [hn] at V1 J1 hB h0 ⊢
  have HB := Lib.hid hB
  have H0 := Lib.hid h0
  clear hok hw hn1 hn6 h24 hjl hs hc hc2 hm h hJ hwd hal hfi hse hB h0 hn
  go_enter Tryd.func11, Tryd.ntmps11
  go_wp2_with fail
  refine (V1.out _ HB.out).mono ?_
  rintro e w1 ⟨rfl, hb1⟩
  have hBw := Nm.Nb HB.out hb1
  have hbk := (hb1.block w.heap.size (by simp)).trans H0.out
  have c0 : w1.cell? ⟨w.heap.size, 0, none⟩ = some (.int .i64 k) := by simp [World.cell?, hbk]
  have c1 : w1.cell? ⟨w.heap.size, 1, none⟩ = some (.slice A n c) := by simp [World.cell?, hbk]
  have HBW := Lib.hid hBw
  clear hbk hb1 hBw
  go_wp2_with fail
  have R0 := fun dq os => cell_regrown c0 dq os
  have R1 := fun dq os => cell_regrown c1 dq os
  have A1r := Lib.hid (fun dq os => Calls.regrown_of (A1.out (Go.Sort.grow (redrawn w1 dq) os) (Nm.Nb HBW.out (below_regrown w1 dq os))))
  have J1r := Lib.hid (fun dq os => Calls.regrown_of (J1.out (Go.Sort.grow (redrawn w1 dq) os) (Nm.Nb HBW.out (below_regrown w1 dq os))))
  have F0 := fun w' => Nm.field0 wd al fi se w'
  clear c0 c1
  refine wp_region_quiet_below (by kernel_rfl) (by kernel_rfl) ?_
  repeat (quiet_step (first | (go_at_call 19; exact A1r.out _ _) | (go_at_call 24; exact J1r.out _ _)))
  refine wpQuiet_nil ?_
  intro _ hw'
  obtain ⟨⟨dq, osq⟩, hw''⟩ := hw'
  subst hw''
  go_wp2_with fail
  go_ret2
  exact ⟨by rw [← hR.out]; rfl, Nm.Nb HBW.out (below_regrown w1 dq osq)⟩
theorem Nm.text_bad (k : Int) (A : Option Addr) (c : Nat) (ss : List ByteArray) (w : World) (hok : Nm.okN (Nm.sc k) (ss.map fun x => x.data.toList) = false) (hs : Strs w w.heap.size A ss) (hc : ss.length ≤ c) (hc2 : c ≤ maxLen) (hm : ∀ x ∈ ss, x.size ≤ maxLen) (h : Nm.Tb w.heap.size w) :
    Calls Tryd.prog 11 #[.agg #[.int .i64 k, .slice A ss.length c]] w fun e w' => e = .returned (.tuple #[.string ⟨#[]⟩, .int .i64 1]) ∧ Below w.heap.size w w' := by
  have hB := Nm.al w (.cells #[.int .i64 k, .slice A ss.length c] 24)
  have V1 := Lib.hid (Nm.valid_any k A c ss _ (Nm.sbt hs hB) (Nat.le_trans hc hc2) hm (h.bt hB))
  rw [hok] at V1
  clear hok hs hc hc2 hm h
  go_enter Tryd.func11, Tryd.ntmps11
  go_wp2_with fail
  refine V1.out.mono ?_
  rintro e w1 ⟨rfl, hb1⟩
  go_wp2
  go_ret2
  exact ⟨rfl, Nm.Nb hB hb1⟩
end Go.Proofs.YtcjlnmfbanknhaaDoor
