/- ClockFirst: the walk (layer 6). -/
import Derived.Test.YtkkgefefbamcpaaDoorClHd
import Derived.Test.YtkkgefefbamcpaaDoorClGoW
import Derived.Test.YtkkgefefbamcpaaDoorClO
import Derived.Lib.QuietBelow
import Derived.Deep.QuietTactic
set_option linter.unusedSimpArgs false
set_option linter.unusedVariables false
namespace Go.Proofs.YtkkgefefbamcpaaDoor
open Go.RowKit
set_option maxRecDepth 100000

theorem Cl.earl_lt {zs : List Cl.Sh} (hv : Cl.vz zs = true) {t d m : Int} (h0 : 0 ≤ t) (h1 : t < 144001440) (m0 : 0 ≤ m) (m1 : m < 1440) :
    ∃ a b, Cl.locF zs t = (a, b, 0) ∧ Cl.earl a b d m = decide (Cl.loc zs t < Cl.want d m) := by
  obtain ⟨l1, l2, l3, l4, l5, l6⟩ := Cl.locF_ok hv h0 (show t < Cl.M1 from h1)
  refine ⟨(Cl.locF zs t).1, (Cl.locF zs t).2.1, Prod.ext rfl (Prod.ext rfl l1), ?_⟩
  have := Cl.earlier_iff (d := d) (m := m) l2 l3 l4 l5 m0 m1
  rw [l6] at this
  have e : ∀ a b : Int, Cl.earl a b d m = decide (a < d ∨ a = d ∧ b < m) := fun a b => by unfold Cl.earl; simp
  rw [e]
  exact decide_eq_decide.2 this
theorem Cl.first_fact {zs : List Cl.Sh} (hv : Cl.vz zs = true) {d m : Int} (m0 : 0 ≤ m) (m1 : m < 1440) :
    (∃ t a b, Cl.instF zs d m = (t, 0) ∧ 0 ≤ t ∧ t < 144001440 ∧ Cl.locF zs t = (a, b, 0) ∧ Cl.earl a b d m = false ∧ ∀ u, 0 ≤ u → u < t → ∃ x y, Cl.locF zs u = (x, y, 0) ∧ Cl.earl x y d m = true) ∨
    (Cl.instF zs d m = (0, 10) ∧ ∀ u, 0 ≤ u → u < 144001440 → ∃ x y, Cl.locF zs u = (x, y, 0) ∧ Cl.earl x y d m = true) := by
  have g := Cl.good_of zs hv
  have hi := Cl.instF_ok (d := d) hv m0 m1
  cases h : Cl.inst (Cl.sp zs) (Cl.want d m) with
  | none =>
    rw [h] at hi
    refine .inr ⟨hi, fun u u0 u1 => ?_⟩
    obtain ⟨x, y, e1, e2⟩ := Cl.earl_lt (d := d) hv u0 u1 m0 m1
    exact ⟨x, y, e1, by rw [e2, decide_eq_true (Cl.inst_none g h u u0 u1)]⟩
  | some t =>
    rw [h] at hi
    obtain ⟨a1, a2, a3, a4⟩ := Cl.inst_some g h
    have a2' : t < 144001440 := a2
    obtain ⟨x, y, e1, e2⟩ := Cl.earl_lt (d := d) hv a1 a2' m0 m1
    refine .inl ⟨t, x, y, hi, a1, a2', e1, by rw [e2, decide_eq_false (by omega)], fun u u0 u1 => ?_⟩
    obtain ⟨x, y, e1, e2⟩ := Cl.earl_lt (d := d) hv u0 (show u < 144001440 by omega) m0 m1
    exact ⟨x, y, e1, by rw [e2, decide_eq_true (a4 u u0 u1)]⟩

set_option maxHeartbeats 1000000 in
theorem first_no (A : Option Addr) (c : Nat) (zs : List Cl.Sh) (d m raw : Int) (w : World) (hp : PowC w.heap.size w) (w1' : (Lit.int .i64 d).wf = true) (w2 : (Lit.int .i64 m).wf = true) (hz : Zn w w.heap.size A zs) (h : (decide ((zs.length : Int) ≤ 40) && Cl.vz zs) = false) :
    Calls Tryd.prog 5 #[.agg #[.slice A zs.length c], .int .i64 d, .int .i64 m, .int .u32 raw] w fun e w' => e = .returned (.bool true) ∧ Below w.heap.size w w' := by
  have hb := Cl.al w (.cells #[.slice A zs.length c] 24)
  have hc := (Boxed.new w 24 (.slice A zs.length c)).cell
  have HH := Lib.hid (fun v (h : Below w.heap.size w v) => head_any v (hp.bt h))
  have FW := Lib.hid (fun v (_ : Below w.heap.size w v) => few_any A c zs.length 40 v)
  have HV := Lib.hid (fun v (h : Below w.heap.size w v) => valid_any A c zs v (hz.bt h))
  clear hp hz
  cases hf : decide ((zs.length : Int) ≤ 40)
  · rw [hf] at FW
    clear hf h HV
    go_enter Tryd.func5, Tryd.ntmps5
    go_wp2_with fail
    refine (HH.out _ hb).mono ?_
    rintro e v ⟨rfl, g⟩
    have hb' := Cl.Nb hb g
    have hc' := Cl.cell_bt hc g
    clear g hb hc
    have hb := hb'
    have hc := hc'
    clear hb' hc'
    go_wp2_with fail
    refine (FW.out _ hb).mono ?_
    rintro e v ⟨rfl, g⟩
    have hb' := Cl.Nb hb g
    have hc' := Cl.cell_bt hc g
    clear g hb hc
    have hb := hb'
    have hc := hc'
    clear hb' hc'
    go_wp2_with fail
    go_ret
    exact ⟨rfl, hb⟩
  · rw [hf] at FW h
    have hv : Cl.vz zs = false := by simpa using h
    rw [hv] at HV
    clear hf h hv
    go_enter Tryd.func5, Tryd.ntmps5
    go_wp2_with fail
    refine (HH.out _ hb).mono ?_
    rintro e v ⟨rfl, g⟩
    have hb' := Cl.Nb hb g
    have hc' := Cl.cell_bt hc g
    clear g hb hc
    have hb := hb'
    have hc := hc'
    clear hb' hc'
    go_wp2_with fail
    refine (FW.out _ hb).mono ?_
    rintro e v ⟨rfl, g⟩
    have hb' := Cl.Nb hb g
    have hc' := Cl.cell_bt hc g
    clear g hb hc
    have hb := hb'
    have hc := hc'
    clear hb' hc'
    go_wp2_with fail
    refine (HV.out _ hb).mono ?_
    rintro e v ⟨rfl, g⟩
    have hb' := Cl.Nb hb g
    have hc' := Cl.cell_bt hc g
    clear g hb hc
    have hb := hb'
    have hc := hc'
    clear hb' hc'
    go_wp2_with fail
    go_ret
    exact ⟨rfl, hb⟩

set_option maxHeartbeats 4000000 in
theorem first_m0_yes (A : Option Addr) (c : Nat) (zs : List Cl.Sh) (d m raw : Int) (w : World) (hp : PowC w.heap.size w) (hz : Zn w w.heap.size A zs) (hv : Cl.vz zs = true) (hm : m < 0) :
    Calls Tryd.prog 5 #[.agg #[.slice A zs.length c], .int .i64 d, .int .i64 m, .int .u32 raw] w fun e w' => e = .returned (.bool true) ∧ Below w.heap.size w w' := by
  have hb := Cl.al w (.cells #[.slice A zs.length c] 24)
  have hc := (Boxed.new w 24 (.slice A zs.length c)).cell
  have HH := Lib.hid (fun v (h : Below w.heap.size w v) => head_any v (hp.bt h))
  have FW := Lib.hid (fun v (_ : Below w.heap.size w v) => few_any A c zs.length 40 v)
  have HV := Lib.hid (fun v (h : Below w.heap.size w v) => valid_any A c zs v (hz.bt h))
  have g := Cl.good_of zs hv
  have hfew := g.few
  rw [decide_eq_true (show (zs.length : Int) ≤ 40 by omega)] at FW
  rw [hv] at HV
  have HZ := Lib.hid (fun v (h : Below w.heap.size w v) => hz.bt h)
  have q1 : decide (m < 0) = true := decide_eq_true hm
  clear hm
  clear hp hz hv g HZ
  go_enter Tryd.func5, Tryd.ntmps5
  go_wp2_with fail
  refine (HH.out _ hb).mono ?_
  rintro e v ⟨rfl, g⟩
  have hb' := Cl.Nb hb g
  have hc' := Cl.cell_bt hc g
  clear g hb hc
  have hb := hb'
  have hc := hc'
  clear hb' hc'
  go_wp2_with fail
  refine (FW.out _ hb).mono ?_
  rintro e v ⟨rfl, g⟩
  have hb' := Cl.Nb hb g
  have hc' := Cl.cell_bt hc g
  clear g hb hc FW
  have hb := hb'
  have hc := hc'
  clear hb' hc'
  go_wp2_with fail
  refine (HV.out _ hb).mono ?_
  rintro e v ⟨rfl, g⟩
  have hb' := Cl.Nb hb g
  have hc' := Cl.cell_bt hc g
  clear g hb hc HV HH
  have hb := hb'
  have hc := hc'
  clear hb' hc'
  go_wp2_with fail
  go_ret
  exact ⟨rfl, hb⟩

set_option maxHeartbeats 4000000 in
theorem first_m1_yes (A : Option Addr) (c : Nat) (zs : List Cl.Sh) (d m raw : Int) (w : World) (hp : PowC w.heap.size w) (hz : Zn w w.heap.size A zs) (hv : Cl.vz zs = true) (hm : 1439 < m) :
    Calls Tryd.prog 5 #[.agg #[.slice A zs.length c], .int .i64 d, .int .i64 m, .int .u32 raw] w fun e w' => e = .returned (.bool true) ∧ Below w.heap.size w w' := by
  have hb := Cl.al w (.cells #[.slice A zs.length c] 24)
  have hc := (Boxed.new w 24 (.slice A zs.length c)).cell
  have HH := Lib.hid (fun v (h : Below w.heap.size w v) => head_any v (hp.bt h))
  have FW := Lib.hid (fun v (_ : Below w.heap.size w v) => few_any A c zs.length 40 v)
  have HV := Lib.hid (fun v (h : Below w.heap.size w v) => valid_any A c zs v (hz.bt h))
  have g := Cl.good_of zs hv
  have hfew := g.few
  rw [decide_eq_true (show (zs.length : Int) ≤ 40 by omega)] at FW
  rw [hv] at HV
  have HZ := Lib.hid (fun v (h : Below w.heap.size w v) => hz.bt h)
  have q1 : decide (m < 0) = false := decide_eq_false (by omega)
  have q2 : decide (1439 < m) = true := decide_eq_true hm
  clear hm
  clear hp hz hv g HZ
  go_enter Tryd.func5, Tryd.ntmps5
  go_wp2_with fail
  refine (HH.out _ hb).mono ?_
  rintro e v ⟨rfl, g⟩
  have hb' := Cl.Nb hb g
  have hc' := Cl.cell_bt hc g
  clear g hb hc
  have hb := hb'
  have hc := hc'
  clear hb' hc'
  go_wp2_with fail
  refine (FW.out _ hb).mono ?_
  rintro e v ⟨rfl, g⟩
  have hb' := Cl.Nb hb g
  have hc' := Cl.cell_bt hc g
  clear g hb hc FW
  have hb := hb'
  have hc := hc'
  clear hb' hc'
  go_wp2_with fail
  refine (HV.out _ hb).mono ?_
  rintro e v ⟨rfl, g⟩
  have hb' := Cl.Nb hb g
  have hc' := Cl.cell_bt hc g
  clear g hb hc HV HH
  have hb := hb'
  have hc := hc'
  clear hb' hc'
  go_wp2_with fail
  go_ret
  exact ⟨rfl, hb⟩

set_option maxHeartbeats 8000000 in
theorem first_yes (A : Option Addr) (c : Nat) (zs : List Cl.Sh) (d m raw : Int) (w : World) (hp : PowC w.heap.size w) (hz : Zn w w.heap.size A zs) (hv : Cl.vz zs = true) (hm0 : 0 ≤ m) (hm1 : m < 1440) (hr0 : 0 ≤ raw) (hr1 : raw < 4294967296) :
    Calls Tryd.prog 5 #[.agg #[.slice A zs.length c], .int .i64 d, .int .i64 m, .int .u32 raw] w fun e w' => e = .returned (.bool true) ∧ Below w.heap.size w w' := by
  have hb := Cl.al w (.cells #[.slice A zs.length c] 24)
  have hc := (Boxed.new w 24 (.slice A zs.length c)).cell
  have HH := Lib.hid (fun v (h : Below w.heap.size w v) => head_any v (hp.bt h))
  have FW := Lib.hid (fun v (_ : Below w.heap.size w v) => few_any A c zs.length 40 v)
  have HV := Lib.hid (fun v (h : Below w.heap.size w v) => valid_any A c zs v (hz.bt h))
  have g := Cl.good_of zs hv
  have hfew := g.few
  rw [decide_eq_true (show (zs.length : Int) ≤ 40 by omega)] at FW
  rw [hv] at HV
  have HZ := Lib.hid (fun v (h : Below w.heap.size w v) => hz.bt h)
  have q1 : decide (m < 0) = false := decide_eq_false (by omega)
  have q2 : decide (1439 < m) = false := decide_eq_false (by omega)
  have h1n : 1 ≤ zs.length := g.one
  have FR := Lib.hid (fun k h1 hk => Cl.from_in g (k := k) h1 hk)
  rcases Cl.first_fact (d := d) hv hm0 hm1 with ⟨t, a, b, hi, t0, t1, hl, he, hU⟩ | ⟨hi, hU⟩
  · have IN : Hid (∀ v, Below w.heap.size w v → Calls Tryd.prog 15 #[.agg #[.slice A zs.length c], .int .i64 d, .int .i64 m] v fun e w' => e = .returned (.tuple #[.int .i64 t, .int .i64 0]) ∧ Below v.heap.size v w') := Lib.hid (fun v h => by
      have := instant_any A c zs d m v (hz.bt h)
      rw [hi] at this
      exact this)
    have LT : Hid (∀ v, Below w.heap.size w v → Calls Tryd.prog 13 #[.agg #[.slice A zs.length c], .int .i64 t] v fun e w' => e = .returned (.tuple #[.int .i64 a, .int .i64 b, .int .i64 0]) ∧ Below v.heap.size v w') := Lib.hid (fun v h => by
      have := local_any A c zs t v (hz.bt h)
      rw [hl] at this
      exact this)
    have EA := Lib.hid (fun v => by
      have := earlier_any a b d m v
      rw [he] at this
      exact this)
    have HU := Lib.hid hU
    clear hi hl he hU hv hp hz g
    by_cases h0 : t = 0
    · subst h0
      go_enter Tryd.func5, Tryd.ntmps5
      go_wp2_with fail
      refine (HH.out _ hb).mono ?_
      rintro e v ⟨rfl, g⟩
      have hb' := Cl.Nb hb g
      have hc' := Cl.cell_bt hc g
      clear g hb hc
      have hb := hb'
      have hc := hc'
      clear hb' hc'
      go_wp2_with fail
      refine (FW.out _ hb).mono ?_
      rintro e v ⟨rfl, g⟩
      have hb' := Cl.Nb hb g
      have hc' := Cl.cell_bt hc g
      clear g hb hc FW
      have hb := hb'
      have hc := hc'
      clear hb' hc'
      go_wp2_with fail
      refine (HV.out _ hb).mono ?_
      rintro e v ⟨rfl, g⟩
      have hb' := Cl.Nb hb g
      have hc' := Cl.cell_bt hc g
      clear g hb hc HV HH
      have hb := hb'
      have hc := hc'
      clear hb' hc'
      go_wp2_with fail
      refine (IN.out _ hb).mono ?_
      rintro e v ⟨rfl, g⟩
      have hb' := Cl.Nb hb g
      have hc' := Cl.cell_bt hc g
      clear g hb hc IN
      have hb := hb'
      have hc := hc'
      clear hb' hc'
      go_wp2_with fail
      refine (LT.out _ hb).mono ?_
      rintro e v ⟨rfl, g⟩
      have hb' := Cl.Nb hb g
      have hc' := Cl.cell_bt hc g
      clear g hb hc LT
      have hb := hb'
      have hc := hc'
      clear hb' hc'
      go_wp2_with fail
      refine (EA.out _).mono ?_
      rintro e v' ⟨rfl, rfl⟩
      clear EA
      go_wp2_with fail
      go_ret
      exact ⟨rfl, hb⟩
    · have h0' : (t == 0) = false := by simp [h0]
      have hz1 : (IntKind.i64.wrap raw).tmod t = raw % t := by rw [Cl.wrapK (by omega)]; exact Int.tmod_eq_emod_of_nonneg hr0
      have hz2 : 0 ≤ raw % t ∧ raw % t < t := ⟨Int.emod_nonneg _ (by omega), Int.emod_lt_of_pos _ (by omega)⟩
      have HI : Hid (∀ u ∈ [t - 1, raw % t], 0 ≤ u ∧ u < t) := Lib.hid (fun u hu => by
        rcases List.mem_cons.1 hu with h | h
        · omega
        · rw [List.mem_singleton.1 h]
          exact hz2)
      clear hz1 hz2
      go_enter Tryd.func5, Tryd.ntmps5
      go_wp2_with fail
      refine (HH.out _ hb).mono ?_
      rintro e v ⟨rfl, g⟩
      have hb' := Cl.Nb hb g
      have hc' := Cl.cell_bt hc g
      clear g hb hc
      have hb := hb'
      have hc := hc'
      clear hb' hc'
      go_wp2_with fail
      refine (FW.out _ hb).mono ?_
      rintro e v ⟨rfl, g⟩
      have hb' := Cl.Nb hb g
      have hc' := Cl.cell_bt hc g
      clear g hb hc FW
      have hb := hb'
      have hc := hc'
      clear hb' hc'
      go_wp2_with fail
      refine (HV.out _ hb).mono ?_
      rintro e v ⟨rfl, g⟩
      have hb' := Cl.Nb hb g
      have hc' := Cl.cell_bt hc g
      clear g hb hc HV HH
      have hb := hb'
      have hc := hc'
      clear hb' hc'
      go_wp2_with fail
      refine (IN.out _ hb).mono ?_
      rintro e v ⟨rfl, g⟩
      have hb' := Cl.Nb hb g
      have hc' := Cl.cell_bt hc g
      clear g hb hc IN
      have hb := hb'
      have hc := hc'
      clear hb' hc'
      go_wp2_with fail
      refine (LT.out _ hb).mono ?_
      rintro e v ⟨rfl, g⟩
      have hb' := Cl.Nb hb g
      have hc' := Cl.cell_bt hc g
      clear g hb hc LT
      have hb := hb'
      have hc := hc'
      clear hb' hc'
      go_wp2_with fail
      refine (EA.out _).mono ?_
      rintro e v' ⟨rfl, rfl⟩
      clear EA
      have hlt0 : w.heap.size + 1 ≤ v.heap.size := Cl.cell_lt hc
      have HR : Hid (CoZ (v.alloc (.cells #[.int .i64 (t - 1), .int .i64 (raw % t)] 3)) (w.heap.size + 1) v.heap.size 2 [(t - 1), (raw % t)]) := Lib.hid (CoZ.row (l := [(t - 1), (raw % t)]) (World.alloc_heap_new v _) hlt0 (by simp [maxLen]))
      have hc' := Cl.cell_bt hc (Cl.al v (.cells #[.int .i64 (t - 1), .int .i64 (raw % t)] 3))
      have hb' := Cl.Nb hb (Cl.al v (.cells #[.int .i64 (t - 1), .int .i64 (raw % t)] 3))
      go_wp2_with fail
      clear hc hb
      have hc := hc'
      have hb := hb'
      clear hc' hb'
      have HWB : Hid (w.heap.size < w.heap.size + 1) := Lib.hid (by omega)
      go_loopw [16, 17] (fun v i wr => ∃ (k g cp : Nat) (l : List Int), k + 1 ≤ zs.length ∧ i = .int .i64 ((k : Int) + 1) ∧ v = .slice (some ⟨g, 0, none⟩) l.length cp ∧ Hid (CoZ wr (w.heap.size + 1) g cp l) ∧ Hid (∀ u ∈ l, 0 ≤ u ∧ u < t) ∧ l.length ≤ k + 2 ∧ wr.cell? ⟨w.heap.size, 0, none⟩ = some (.slice A zs.length c) ∧ Below w.heap.size w wr) (fun _ i _ => zs.length - (intOf i).toNat)
      case atStart => exact ⟨0, _, 2, _, h1n, rfl, rfl, HR, HI, by simp, hc, hb⟩
      case round =>
        obtain ⟨k, gg, cp, l, hk, rfl, rfl, HR, HI, hll, hc, hb⟩ := hrel
        by_cases hlt : k + 1 < zs.length
        · obtain ⟨ad, rfl, y1, y2, y3, y4⟩ := (HZ.out wr hb).at hlt
          have fr := FR.out (k + 1) (by omega) hlt
          obtain ⟨f, hf⟩ : ∃ f, f = (zs.getD (k + 1) (0, 0)).1 := ⟨_, rfl⟩
          rw [← hf] at y1 y3 fr
          obtain ⟨fr1, fr2⟩ := fr
          clear hf y2 y4
          by_cases hfe : f - 1 < t
          · have HI2 : Hid (∀ u ∈ l ++ [f - 1], 0 ≤ u ∧ u < t) := Lib.hid (fun u hu => by
              rcases List.mem_append.1 hu with h | h
              · exact HI.out u h
              · rw [List.mem_singleton.1 h]
                omega)
            have hbx := Cl.Nb hb (Cl.al wr (.cells #[.int .i64 (f - 1)] 3))
            have HR2 := Lib.hid (HR.out.bt (Cl.al wr (.cells #[.int .i64 (f - 1)] 3)))
            have hnew := Lib.hid (World.alloc_heap_new wr (.cells #[.int .i64 (f - 1)] 3))
            have hsz : w.heap.size + 1 ≤ (wr.alloc (.cells #[.int .i64 (f - 1)] 3)).heap.size := Cl.cell_lt (Cl.cell_bt hc (Cl.al wr (.cells #[.int .i64 (f - 1)] 3)))
            have hcx := Cl.cell_bt hc (Cl.al wr (.cells #[.int .i64 (f - 1)] 3))
            have HBX := Lib.hid hbx
            have HCX := Lib.hid hcx
            have HSZ := Lib.hid hsz
            have hlm : l.length + 1 ≤ 1000000 := by omega
            clear hbx hsz hcx
            go_wp2_with (first
              | (at_builtin
                 refine list_appendC rfl (.tmp 102) (.tmp 110) 43 rfl rfl (w.heap.size + 1) _ l rfl HR2.out ⟨wr.heap.size, 0, none⟩ 1 1 [f - 1] rfl rfl (Cl.one_src hnew.out) (by omega) hlm HSZ.out ?_
                 intro g2 c2 w2 ho2 hb2
                 have HR3 := Lib.hid ho2
                 have HB3 := Lib.hid hb2
                 clear ho2 hb2)
              | fail)
            go_roundw
            case rel => exact ⟨k + 1, g2, c2, l ++ [f - 1], by omega, by go_num, by simp, HR3, HI2, by simp; omega, (HB3.out.cell (p := ⟨w.heap.size, 0, none⟩) HWB.out).trans HCX.out, HBX.out.trans (HB3.out.mono (by omega))⟩
            case measure => simp [intOf]; omega
          · go_wp2_with fail
            go_roundw
            case rel => exact ⟨k + 1, gg, cp, l, by omega, by go_num, rfl, HR, HI, by omega, hc, hb⟩
            case measure => simp [intOf]; omega
        · go_wp2_with fail
          go_loopw [18] (fun i wr => ∃ k2 : Nat, k2 ≤ l.length ∧ i = .int .i64 (k2 : Int) ∧ Hid (CoZ wr (w.heap.size + 1) gg cp l) ∧ wr.cell? ⟨w.heap.size, 0, none⟩ = some (.slice A zs.length c) ∧ Below w.heap.size w wr) (fun i _ => l.length - (intOf i).toNat)
          case atStart => exact ⟨0, by omega, rfl, HR, hc, hb⟩
          case round =>
            obtain ⟨k2, hk2, rfl, HR, hc, hb⟩ := hrel
            by_cases hk3 : k2 < l.length
            · have hcell := HR.out.cell k2 hk3
              have hu := HI.out (l.getD k2 0) (by rw [List.getD_eq_getElem?_getD, List.getElem?_eq_getElem hk3]; exact List.getElem_mem _)
              obtain ⟨u, hue⟩ : ∃ u, u = l.getD k2 0 := ⟨_, rfl⟩
              rw [← hue] at hcell hu
              obtain ⟨x, y, hx, hy⟩ := HU.out u hu.1 hu.2
              have LX := Lib.hid (fun v (h : Below w.heap.size w v) => by
                have := local_any A c zs u v (HZ.out v h)
                rw [hx] at this
                exact this)
              have EX := Lib.hid (fun v => by
                have := earlier_any x y d m v
                rw [hy] at this
                exact this)
              have hcr := fun dq os => cell_regrown hc dq os
              have hcr2 := fun dq os => cell_regrown hcell dq os
              have LYr := Lib.hid (fun dq os => Calls.regrown_of (LX.out (Go.Sort.grow (redrawn wr dq) os) (Cl.Nb hb (below_regrown wr dq os))))
              clear hue hu hx hy
              go_wp2_with fail
              clear hc hcell
              refine wp_region_quiet_below (by kernel_rfl) (by kernel_rfl) ?_
              repeat (quiet_step ((go_at_call 13; exact LYr.out _ _)))
              refine wpQuiet_nil ?_
              intro _ hw'
              obtain ⟨⟨dq, osq⟩, hw''⟩ := hw'
              subst hw''
              have hbq := Cl.Nb hb (below_regrown wr dq osq)
              have hcq := hcr dq osq
              have HRq := Lib.hid (HR.out.bt (below_regrown wr dq osq))
              clear hcr hcr2 hb
              generalize Go.Sort.grow (redrawn wr dq) osq = w5 at *
              go_wp2_with fail
              refine (EX.out _).mono ?_
              rintro e w6 ⟨rfl, rfl⟩
              go_wp2_with fail
              go_roundw
              case rel => exact ⟨k2 + 1, by omega, by go_num, HRq, hcq, hbq⟩
              case measure => simp [intOf]; omega
            · go_wp2_with fail
              go_ret
              exact ⟨rfl, hb⟩
  · have IN : Hid (∀ v, Below w.heap.size w v → Calls Tryd.prog 15 #[.agg #[.slice A zs.length c], .int .i64 d, .int .i64 m] v fun e w' => e = .returned (.tuple #[.int .i64 0, .int .i64 10]) ∧ Below v.heap.size v w') := Lib.hid (fun v h => by
      have := instant_any A c zs d m v (hz.bt h)
      rw [hi] at this
      exact this)
    have HU := Lib.hid hU
    clear hi hU hv hp hz g
    have hz1 : (IntKind.i64.wrap raw).tmod 144001440 = raw % 144001440 := by rw [Cl.wrapK (by omega)]; exact Int.tmod_eq_emod_of_nonneg hr0
    have hz2 : 0 ≤ raw % 144001440 ∧ raw % 144001440 < 144001440 := ⟨Int.emod_nonneg _ (by omega), Int.emod_lt_of_pos _ (by omega)⟩
    have HI : Hid (∀ u ∈ [144001439, raw % 144001440], 0 ≤ u ∧ u < 144001440) := Lib.hid (fun u hu => by
      rcases List.mem_cons.1 hu with h | h
      · omega
      · rw [List.mem_singleton.1 h]
        exact hz2)
    clear hz1 hz2
    go_enter Tryd.func5, Tryd.ntmps5
    go_wp2_with fail
    refine (HH.out _ hb).mono ?_
    rintro e v ⟨rfl, g⟩
    have hb' := Cl.Nb hb g
    have hc' := Cl.cell_bt hc g
    clear g hb hc
    have hb := hb'
    have hc := hc'
    clear hb' hc'
    go_wp2_with fail
    refine (FW.out _ hb).mono ?_
    rintro e v ⟨rfl, g⟩
    have hb' := Cl.Nb hb g
    have hc' := Cl.cell_bt hc g
    clear g hb hc FW
    have hb := hb'
    have hc := hc'
    clear hb' hc'
    go_wp2_with fail
    refine (HV.out _ hb).mono ?_
    rintro e v ⟨rfl, g⟩
    have hb' := Cl.Nb hb g
    have hc' := Cl.cell_bt hc g
    clear g hb hc HV HH
    have hb := hb'
    have hc := hc'
    clear hb' hc'
    go_wp2_with fail
    refine (IN.out _ hb).mono ?_
    rintro e v ⟨rfl, g⟩
    have hb' := Cl.Nb hb g
    have hc' := Cl.cell_bt hc g
    clear g hb hc IN
    have hb := hb'
    have hc := hc'
    clear hb' hc'
    have hlt0 : w.heap.size + 1 ≤ v.heap.size := Cl.cell_lt hc
    have HR : Hid (CoZ (v.alloc (.cells #[.int .i64 (144001439), .int .i64 (raw % 144001440)] 3)) (w.heap.size + 1) v.heap.size 2 [(144001439), (raw % 144001440)]) := Lib.hid (CoZ.row (l := [(144001439), (raw % 144001440)]) (World.alloc_heap_new v _) hlt0 (by simp [maxLen]))
    have hc' := Cl.cell_bt hc (Cl.al v (.cells #[.int .i64 (144001439), .int .i64 (raw % 144001440)] 3))
    have hb' := Cl.Nb hb (Cl.al v (.cells #[.int .i64 (144001439), .int .i64 (raw % 144001440)] 3))
    go_wp2_with fail
    clear hc hb
    have hc := hc'
    have hb := hb'
    clear hc' hb'
    have HWB : Hid (w.heap.size < w.heap.size + 1) := Lib.hid (by omega)
    go_loopw [16, 17] (fun v i wr => ∃ (k g cp : Nat) (l : List Int), k + 1 ≤ zs.length ∧ i = .int .i64 ((k : Int) + 1) ∧ v = .slice (some ⟨g, 0, none⟩) l.length cp ∧ Hid (CoZ wr (w.heap.size + 1) g cp l) ∧ Hid (∀ u ∈ l, 0 ≤ u ∧ u < 144001440) ∧ l.length ≤ k + 2 ∧ wr.cell? ⟨w.heap.size, 0, none⟩ = some (.slice A zs.length c) ∧ Below w.heap.size w wr) (fun _ i _ => zs.length - (intOf i).toNat)
    case atStart => exact ⟨0, _, 2, _, h1n, rfl, rfl, HR, HI, by simp, hc, hb⟩
    case round =>
      obtain ⟨k, gg, cp, l, hk, rfl, rfl, HR, HI, hll, hc, hb⟩ := hrel
      by_cases hlt : k + 1 < zs.length
      · obtain ⟨ad, rfl, y1, y2, y3, y4⟩ := (HZ.out wr hb).at hlt
        have fr := FR.out (k + 1) (by omega) hlt
        obtain ⟨f, hf⟩ : ∃ f, f = (zs.getD (k + 1) (0, 0)).1 := ⟨_, rfl⟩
        rw [← hf] at y1 y3 fr
        obtain ⟨fr1, fr2⟩ := fr
        clear hf y2 y4
        by_cases hfe : f - 1 < 144001440
        · have HI2 : Hid (∀ u ∈ l ++ [f - 1], 0 ≤ u ∧ u < 144001440) := Lib.hid (fun u hu => by
            rcases List.mem_append.1 hu with h | h
            · exact HI.out u h
            · rw [List.mem_singleton.1 h]
              omega)
          have hbx := Cl.Nb hb (Cl.al wr (.cells #[.int .i64 (f - 1)] 3))
          have HR2 := Lib.hid (HR.out.bt (Cl.al wr (.cells #[.int .i64 (f - 1)] 3)))
          have hnew := Lib.hid (World.alloc_heap_new wr (.cells #[.int .i64 (f - 1)] 3))
          have hsz : w.heap.size + 1 ≤ (wr.alloc (.cells #[.int .i64 (f - 1)] 3)).heap.size := Cl.cell_lt (Cl.cell_bt hc (Cl.al wr (.cells #[.int .i64 (f - 1)] 3)))
          have hcx := Cl.cell_bt hc (Cl.al wr (.cells #[.int .i64 (f - 1)] 3))
          have HBX := Lib.hid hbx
          have HCX := Lib.hid hcx
          have HSZ := Lib.hid hsz
          have hlm : l.length + 1 ≤ 1000000 := by omega
          clear hbx hsz hcx
          go_wp2_with (first
            | (at_builtin
               refine list_appendC rfl (.tmp 102) (.tmp 110) 43 rfl rfl (w.heap.size + 1) _ l rfl HR2.out ⟨wr.heap.size, 0, none⟩ 1 1 [f - 1] rfl rfl (Cl.one_src hnew.out) (by omega) hlm HSZ.out ?_
               intro g2 c2 w2 ho2 hb2
               have HR3 := Lib.hid ho2
               have HB3 := Lib.hid hb2
               clear ho2 hb2)
            | fail)
          go_roundw
          case rel => exact ⟨k + 1, g2, c2, l ++ [f - 1], by omega, by go_num, by simp, HR3, HI2, by simp; omega, (HB3.out.cell (p := ⟨w.heap.size, 0, none⟩) HWB.out).trans HCX.out, HBX.out.trans (HB3.out.mono (by omega))⟩
          case measure => simp [intOf]; omega
        · exfalso
          omega
      · go_wp2_with fail
        go_loopw [18] (fun i wr => ∃ k2 : Nat, k2 ≤ l.length ∧ i = .int .i64 (k2 : Int) ∧ Hid (CoZ wr (w.heap.size + 1) gg cp l) ∧ wr.cell? ⟨w.heap.size, 0, none⟩ = some (.slice A zs.length c) ∧ Below w.heap.size w wr) (fun i _ => l.length - (intOf i).toNat)
        case atStart => exact ⟨0, by omega, rfl, HR, hc, hb⟩
        case round =>
          obtain ⟨k2, hk2, rfl, HR, hc, hb⟩ := hrel
          by_cases hk3 : k2 < l.length
          · have hcell := HR.out.cell k2 hk3
            have hu := HI.out (l.getD k2 0) (by rw [List.getD_eq_getElem?_getD, List.getElem?_eq_getElem hk3]; exact List.getElem_mem _)
            obtain ⟨u, hue⟩ : ∃ u, u = l.getD k2 0 := ⟨_, rfl⟩
            rw [← hue] at hcell hu
            obtain ⟨x, y, hx, hy⟩ := HU.out u hu.1 hu.2
            have LX := Lib.hid (fun v (h : Below w.heap.size w v) => by
              have := local_any A c zs u v (HZ.out v h)
              rw [hx] at this
              exact this)
            have EX := Lib.hid (fun v => by
              have := earlier_any x y d m v
              rw [hy] at this
              exact this)
            have hcr := fun dq os => cell_regrown hc dq os
            have hcr2 := fun dq os => cell_regrown hcell dq os
            have LYr := Lib.hid (fun dq os => Calls.regrown_of (LX.out (Go.Sort.grow (redrawn wr dq) os) (Cl.Nb hb (below_regrown wr dq os))))
            clear hue hu hx hy
            go_wp2_with fail
            clear hc hcell
            refine wp_region_quiet_below (by kernel_rfl) (by kernel_rfl) ?_
            repeat (quiet_step ((go_at_call 13; exact LYr.out _ _)))
            refine wpQuiet_nil ?_
            intro _ hw'
            obtain ⟨⟨dq, osq⟩, hw''⟩ := hw'
            subst hw''
            have hbq := Cl.Nb hb (below_regrown wr dq osq)
            have hcq := hcr dq osq
            have HRq := Lib.hid (HR.out.bt (below_regrown wr dq osq))
            clear hcr hcr2 hb
            generalize Go.Sort.grow (redrawn wr dq) osq = w5 at *
            go_wp2_with fail
            refine (EX.out _).mono ?_
            rintro e w6 ⟨rfl, rfl⟩
            go_wp2_with fail
            go_roundw
            case rel => exact ⟨k2 + 1, by omega, by go_num, HRq, hcq, hbq⟩
            case measure => simp [intOf]; omega
          · go_wp2_with fail
            go_ret
            exact ⟨rfl, hb⟩

theorem first_walk (A : Option Addr) (c : Nat) (zs : List Cl.Sh) (d m raw : Int) (w : World) (hp : PowC w.heap.size w) (hz : Zn w w.heap.size A zs) (hm : zs.length ≤ maxLen) (w1' : (Lit.int .i64 d).wf = true) (w2 : (Lit.int .i64 m).wf = true) (wj : (Lit.int .u32 raw).wf = true) :
    Calls Tryd.prog 5 #[.agg #[.slice A zs.length c], .int .i64 d, .int .i64 m, .int .u32 raw] w fun e w' => e = .returned (.bool true) ∧ Below w.heap.size w w' := by
  cases h : (decide ((zs.length : Int) ≤ 40) && Cl.vz zs)
  · exact first_no A c zs d m raw w hp w1' w2 hz h
  · simp only [Bool.and_eq_true] at h
    by_cases m0 : m < 0
    · exact first_m0_yes A c zs d m raw w hp hz h.2 m0
    · by_cases m1 : 1439 < m
      · exact first_m1_yes A c zs d m raw w hp hz h.2 m1
      · exact first_yes A c zs d m raw w hp hz h.2 (by omega) (by omega) (Cl.u32r wj).1 (Cl.u32r wj).2
end Go.Proofs.YtkkgefefbamcpaaDoor
