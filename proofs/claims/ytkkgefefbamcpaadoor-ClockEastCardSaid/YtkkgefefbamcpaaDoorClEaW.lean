/- ClockEast: the walk (layer 6). -/
import Derived.Test.YtkkgefefbamcpaaDoorClHd
import Derived.Test.YtkkgefefbamcpaaDoorClEa
set_option linter.unusedSimpArgs false
set_option linter.unusedVariables false
namespace Go.Proofs.YtkkgefefbamcpaaDoor
open Go.RowKit
set_option maxRecDepth 100000
attribute [-go_sem] Builtin.append_

set_option maxHeartbeats 1000000 in
theorem east_no (A : Option Addr) (c : Nat) (zs : List Cl.Sh) (rb raw rd : Int) (w : World) (hp : PowC w.heap.size w) (hz : Zn w w.heap.size A zs) (h : (decide ((zs.length : Int) ≤ 40) && Cl.vz zs) = false) :
    Calls Tryd.prog 10 #[.agg #[.slice A zs.length c], .int .u16 rb, .int .u32 raw, .int .u32 rd] w fun e w' => e = .returned (.bool true) ∧ Below w.heap.size w w' := by
  have hb := Cl.al w (.cells #[.slice A zs.length c] 24)
  have hc := (Boxed.new w 24 (.slice A zs.length c)).cell
  have HH := Lib.hid (fun v (h : Below w.heap.size w v) => head_any v (hp.bt h))
  have FW := Lib.hid (fun v (_ : Below w.heap.size w v) => few_any A c zs.length 40 v)
  have HV := Lib.hid (fun v (h : Below w.heap.size w v) => valid_any A c zs v (hz.bt h))
  clear hp hz
  cases hf : decide ((zs.length : Int) ≤ 40)
  · rw [hf] at FW
    clear hf h HV
    go_enter Tryd.func10, Tryd.ntmps10
    go_wp2_with fail
    refine (HH.out _ hb).mono ?_
    rintro e v ⟨rfl, g⟩
    have hb' := Cl.Nb hb g
    have hc' := Cl.cell_bt hc g
    clear g hb hc
    have hb := hb'
    have hc := hc'
    clear hb' hc'
    go_wp2_with fail
    refine (FW.out _ hb).mono ?_
    rintro e v ⟨rfl, g⟩
    have hb' := Cl.Nb hb g
    have hc' := Cl.cell_bt hc g
    clear g hb hc
    have hb := hb'
    have hc := hc'
    clear hb' hc'
    go_wp2_with fail
    go_ret
    exact ⟨rfl, hb⟩
  · rw [hf] at FW h
    have hv : Cl.vz zs = false := by simpa using h
    rw [hv] at HV
    clear hf h hv
    go_enter Tryd.func10, Tryd.ntmps10
    go_wp2_with fail
    refine (HH.out _ hb).mono ?_
    rintro e v ⟨rfl, g⟩
    have hb' := Cl.Nb hb g
    have hc' := Cl.cell_bt hc g
    clear g hb hc
    have hb := hb'
    have hc := hc'
    clear hb' hc'
    go_wp2_with fail
    refine (FW.out _ hb).mono ?_
    rintro e v ⟨rfl, g⟩
    have hb' := Cl.Nb hb g
    have hc' := Cl.cell_bt hc g
    clear g hb hc
    have hb := hb'
    have hc := hc'
    clear hb' hc'
    go_wp2_with fail
    refine (HV.out _ hb).mono ?_
    rintro e v ⟨rfl, g⟩
    have hb' := Cl.Nb hb g
    have hc' := Cl.cell_bt hc g
    clear g hb hc
    have hb := hb'
    have hc := hc'
    clear hb' hc'
    go_wp2_with fail
    go_ret
    exact ⟨rfl, hb⟩

set_option maxHeartbeats 8000000 in
theorem east_yes (A : Option Addr) (c : Nat) (zs : List Cl.Sh) (rb raw rd : Int) (w : World) (hp : PowC w.heap.size w) (hz : Zn w w.heap.size A zs) (hv : Cl.vz zs = true) (hb0 : 0 ≤ rb) (hb1 : rb < 65536) (hr0 : 0 ≤ raw) (hr1 : raw < 4294967296) (hd0 : 0 ≤ rd) (hd1 : rd < 4294967296) :
    Calls Tryd.prog 10 #[.agg #[.slice A zs.length c], .int .u16 rb, .int .u32 raw, .int .u32 rd] w fun e w' => e = .returned (.bool true) ∧ Below w.heap.size w w' := by
  have hb := Cl.al w (.cells #[.slice A zs.length c] 24)
  have hc := (Boxed.new w 24 (.slice A zs.length c)).cell
  have HH := Lib.hid (fun v (h : Below w.heap.size w v) => head_any v (hp.bt h))
  have FW := Lib.hid (fun v (_ : Below w.heap.size w v) => few_any A c zs.length 40 v)
  have HV := Lib.hid (fun v (h : Below w.heap.size w v) => valid_any A c zs v (hz.bt h))
  have g := Cl.good_of zs hv
  have hfew := g.few
  have hone := g.one
  rw [decide_eq_true (show (zs.length : Int) ≤ 40 by omega)] at FW
  have HV0 := Lib.hid hv
  rw [hv] at HV
  have HZ := Lib.hid (fun v (h : Below w.heap.size w v) => hz.bt h)
  have OFF := Lib.hid (fun k hk => Cl.off_in g (k := k) hk)
  have hK0 : 0 ≤ rb % 1681 := by omega
  have hK1 : rb % 1681 < 1681 := by omega
  have HAD0 := Lib.hid hz
  clear hp hz hv g
  go_enter Tryd.func10, Tryd.ntmps10
  go_wp2_with fail
  refine (HH.out _ hb).mono ?_
  rintro e v ⟨rfl, g⟩
  have hb' := Cl.Nb hb g
  have hc' := Cl.cell_bt hc g
  clear g hb hc
  have hb := hb'
  have hc := hc'
  clear hb' hc'
  go_wp2_with fail
  refine (FW.out _ hb).mono ?_
  rintro e v ⟨rfl, g⟩
  have hb' := Cl.Nb hb g
  have hc' := Cl.cell_bt hc g
  clear g hb hc FW
  have hb := hb'
  have hc := hc'
  clear hb' hc'
  go_wp2_with fail
  refine (HV.out _ hb).mono ?_
  rintro e v ⟨rfl, g⟩
  have hb' := Cl.Nb hb g
  have hc' := Cl.cell_bt hc g
  clear g hb hc HV HH
  have hb := hb'
  have hc := hc'
  clear hb' hc'
  go_wp2_with fail
  generalize rb % 1681 = K at *
  have hE0 := Boxed.new v 24 (.slice none 0 0)
  have hW0 := Cl.Nb hb (Cl.al v (.cells #[.slice none 0 0] 24))
  have hc0 := Cl.cell_bt hc (Cl.al v (.cells #[.slice none 0 0] 24))
  have hEn := hb.size
  have HAD := Lib.hid (fun ad (hA : A = some ad) k (hk : k < zs.length) => (by
    obtain ⟨ad', e', hlt, _⟩ := HAD0.out k hk
    rw [hA] at e'
    cases e'
    exact Nat.lt_of_lt_of_le hlt hEn : ad.block < v.heap.size))
  have hEw : w.heap.size < v.heap.size := Cl.cell_lt (a := ⟨w.heap.size, 0, none⟩) hc
  go_loopw [12] (fun i wr => ∃ (k : Nat) (u : Value), k ≤ zs.length ∧ i = .int .i64 (k : Int) ∧ Hid (Boxed wr v.heap.size 24 u ∧ CoE wr (v.heap.size + 1) u ((Cl.ea K zs).take k) ∧ v.heap.size + 1 ≤ wr.heap.size) ∧ wr.cell? ⟨w.heap.size, 0, none⟩ = some (.slice A zs.length c) ∧ Below w.heap.size w wr) (fun i _ => zs.length - (intOf i).toNat)
  case atStart => exact ⟨0, .slice none 0 0, by omega, rfl, Lib.hid ⟨hE0, CoE.nil _ _, by simp⟩, hc0, hW0⟩
  case round =>
    obtain ⟨k, u, hk, rfl, HB, hc, hb⟩ := hrel
    clear hc0 hW0 hE0
    by_cases hlt : k < zs.length
    · obtain ⟨ad, e0, hadb, y1, y2⟩ := HZ.out wr hb k hlt
      cases e0
      obtain ⟨ad, e0, x1, x2, x3, x4⟩ := (HZ.out wr hb).at hlt
      cases e0
      obtain ⟨r1, r2, r3⟩ := HB.out
      have hadb' : ad.block < v.heap.size := HAD.out _ rfl k hlt
      have o1 := OFF.out k hlt
      have htk : (Cl.ea K zs).take (k + 1) = (Cl.ea K zs).take k ++ [((zs.getD k (0, 0)).1, (zs.getD k (0, 0)).2 + K)] := by
        have hkl : k < (Cl.ea K zs).length := by rw [Cl.ea_length]; exact hlt
        rw [List.take_add_one, List.getElem?_eq_getElem hkl]
        congr 1
        show [(Cl.ea K zs)[k]] = _
        rw [Cl.getD_eq hlt]
        simp [Cl.ea]
      have hll : ((Cl.ea K zs).take k).length = k := by rw [List.length_take, Cl.ea_length]; omega
      obtain ⟨f, hf⟩ : ∃ f, f = (zs.getD k (0, 0)).1 := ⟨_, rfl⟩
      obtain ⟨p, hp⟩ : ∃ p, p = (zs.getD k (0, 0)).2 := ⟨_, rfl⟩
      rw [← hf] at x1 x3 htk
      rw [← hp] at x2 x4 o1 htk
      clear hf hp y1 y2 hadb
      obtain ⟨p0, p1⟩ := o1
      have hw : IntKind.i64.wrap (p + K) = p + K := Cl.wrapK (by omega)
      obtain ⟨g, cap, w3, hrun, s1, s2, ⟨s3, s4, s5, s6⟩, hkeep⟩ := Cl.east_round wr v.heap.size (v.heap.size + 1) w.heap.size u _ f (p + K) r1 r2 (by omega) (by omega) r3 (by omega)
      rw [hll] at hrun s3 s4 s5 s6 hkeep
      obtain ⟨a1, a2, a3⟩ := hkeep ⟨w.heap.size, 0, none⟩ _ hEw hc
      obtain ⟨b1, b2, b3⟩ := hkeep (ad.add (k * 2)) _ (by rw [add_blockC]; exact hadb') x1
      obtain ⟨c1, c2, c3⟩ := hkeep { block := (ad.add (k * 2)).block, off := (ad.add (k * 2)).off + 1 } _ (by rw [add_blockC]; exact hadb') x2
      have hcd : wr.drew.cell? ⟨w.heap.size, 0, none⟩ = some (.slice (some ad) zs.length c) := hc
      have hrd : wr.drew.cell? ⟨v.heap.size, 0, none⟩ = some u := r1.cell
      have sa := s1.cell
      have sa' : (wr.alloc (.cells #[.int .i64 f, .int .i64 (p + K)] 40)).drew.cell? ⟨v.heap.size, 0, none⟩ = some u := sa
      have sa'' : (wr.alloc (.cells #[.int .i64 f, .int .i64 (p + K)] 40)).cell? ⟨v.heap.size, 0, none⟩ = some u := sa
      replace hrun : (Builtin.append_ #[22, 22] 22 #[u, .slice (some ⟨wr.heap.size, 0, none⟩) 1 1]).run Tryd.prog (wr.alloc (.cells #[.int .i64 f, .int .i64 (p + K)] 40)).drew = .ok (.slice (some ⟨g, 0, none⟩) (k + 1) cap) w3 := hrun
      have sb := s2.cell
      have sf := s2.frozen
      have HN := Lib.hid (And.intro s3 (And.intro (by rw [← htk] at s4; exact s4) s6) : Boxed _ v.heap.size 24 _ ∧ CoE _ (v.heap.size + 1) _ ((Cl.ea K zs).take (k + 1)) ∧ _)
      have HBN := Lib.hid (hb.trans s5)
      clear s1 s2 s3 s4 s5 s6 hkeep htk hll HB r1 r2 r3
      go_wp2_with fail
      refine wp_region_held_drew (S := fun w' => w'.cell? ⟨w.heap.size, 0, none⟩ = some (.slice (some ad) zs.length c) ∧ w'.cell? (ad.add (k * 2)) = some (.int .i64 f) ∧ w'.cell? { block := (ad.add (k * 2)).block, off := (ad.add (k * 2)).off + 1 } = some (.int .i64 p)) (by kernel_rfl) ⟨hcd, x3, x4⟩ (fun hH => ?_)
      refine wpAnyH_take (i := 0) (v := ?v0) rfl (by kernel_rfl) (by kernel_rfl) (by kernel_rfl) (fun _ _ _ h => h) (Or.inl ⟨by rfl, ?hy0⟩) hH ?rest0
      case hy0 =>
        intro w' hSw
        obtain ⟨z1, z2, z3⟩ := hSw
        go_simp
        try with_reducible rfl
      try simp only [Act.put, List.setIfInBounds_toArray, List.set_cons_zero, List.set_cons_succ]
      refine wpAnyH_take (i := 2) (v := ?v2) rfl (by kernel_rfl) (by kernel_rfl) (by kernel_rfl) (fun _ _ _ h => h) (Or.inl ⟨by rfl, ?hy2⟩) hH ?rest2
      case hy2 =>
        intro w' hSw
        obtain ⟨z1, z2, z3⟩ := hSw
        go_simp
        try with_reducible rfl
      try simp only [Act.put, List.setIfInBounds_toArray, List.set_cons_zero, List.set_cons_succ]
      refine wpAnyH_take (i := 3) (v := ?v3) rfl (by kernel_rfl) (by kernel_rfl) (by kernel_rfl) (fun _ _ _ h => h) (Or.inl ⟨by rfl, ?hy3⟩) hH ?rest3
      case hy3 =>
        intro w' hSw
        obtain ⟨z1, z2, z3⟩ := hSw
        go_simp
        try with_reducible rfl
      try simp only [Act.put, List.setIfInBounds_toArray, List.set_cons_zero, List.set_cons_succ]
      refine wpAnyH_take (i := 4) (v := ?v4) rfl (by kernel_rfl) (by kernel_rfl) (by kernel_rfl) (fun _ _ _ h => h) (Or.inl ⟨by rfl, ?hy4⟩) hH ?rest4
      case hy4 =>
        intro w' hSw
        obtain ⟨z1, z2, z3⟩ := hSw
        go_simp
        try with_reducible rfl
      try simp only [Act.put, List.setIfInBounds_toArray, List.set_cons_zero, List.set_cons_succ]
      refine wpAnyH_take (i := 5) (v := ?v5) rfl (by kernel_rfl) (by kernel_rfl) (by kernel_rfl) (fun _ _ _ h => h) (Or.inl ⟨by rfl, ?hy5⟩) hH ?rest5
      case hy5 =>
        intro w' hSw
        obtain ⟨z1, z2, z3⟩ := hSw
        go_simp
        try with_reducible rfl
      try simp only [Act.put, List.setIfInBounds_toArray, List.set_cons_zero, List.set_cons_succ]
      refine wpAnyH_take (i := 6) (v := ?v6) rfl (by kernel_rfl) (by kernel_rfl) (by kernel_rfl) (fun _ _ _ h => h) (Or.inl ⟨by rfl, ?hy6⟩) hH ?rest6
      case hy6 =>
        intro w' hSw
        obtain ⟨z1, z2, z3⟩ := hSw
        go_simp
        try with_reducible rfl
      try simp only [Act.put, List.setIfInBounds_toArray, List.set_cons_zero, List.set_cons_succ]
      refine wpAnyH_take (i := 7) (v := ?v7) rfl (by kernel_rfl) (by kernel_rfl) (by kernel_rfl) (fun _ _ _ h => h) (Or.inl ⟨by rfl, ?hy7⟩) hH ?rest7
      case hy7 =>
        intro w' hSw
        obtain ⟨z1, z2, z3⟩ := hSw
        go_simp
        try with_reducible rfl
      try simp only [Act.put, List.setIfInBounds_toArray, List.set_cons_zero, List.set_cons_succ]
      refine wpAnyH_take (i := 8) (v := ?v8) rfl (by kernel_rfl) (by kernel_rfl) (by kernel_rfl) (fun _ _ _ h => h) (Or.inl ⟨by rfl, ?hy8⟩) hH ?rest8
      case hy8 =>
        intro w' hSw
        obtain ⟨z1, z2, z3⟩ := hSw
        go_simp
        try with_reducible rfl
      try simp only [Act.put, List.setIfInBounds_toArray, List.set_cons_zero, List.set_cons_succ]
      refine wpAnyH_take (i := 9) (v := ?v9) rfl (by kernel_rfl) (by kernel_rfl) (by kernel_rfl) (fun _ _ _ h => h) (Or.inl ⟨by rfl, ?hy9⟩) hH ?rest9
      case hy9 =>
        intro w' hSw
        obtain ⟨z1, z2, z3⟩ := hSw
        go_simp
        try with_reducible rfl
      try simp only [Act.put, List.setIfInBounds_toArray, List.set_cons_zero, List.set_cons_succ]
      refine wpAnyH_take (i := 10) (v := ?v10) rfl (by kernel_rfl) (by kernel_rfl) (by kernel_rfl) (fun _ _ _ h => h) (Or.inl ⟨by rfl, ?hy10⟩) hH ?rest10
      case hy10 =>
        intro w' hSw
        obtain ⟨z1, z2, z3⟩ := hSw
        go_simp
        try with_reducible rfl
      try simp only [Act.put, List.setIfInBounds_toArray, List.set_cons_zero, List.set_cons_succ]
      refine wpAnyH_take (i := 11) (v := ?v11) rfl (by kernel_rfl) (by kernel_rfl) (by kernel_rfl) (fun _ _ _ h => h) (Or.inl ⟨by rfl, ?hy11⟩) hH ?rest11
      case hy11 =>
        intro w' hSw
        obtain ⟨z1, z2, z3⟩ := hSw
        go_simp
        try with_reducible rfl
      try simp only [Act.put, List.setIfInBounds_toArray, List.set_cons_zero, List.set_cons_succ]
      refine wpAnyH_take (i := 12) (v := ?v12) rfl (by kernel_rfl) (by kernel_rfl) (by kernel_rfl) (fun _ _ _ h => h) (Or.inl ⟨by rfl, ?hy12⟩) hH ?rest12
      case hy12 =>
        intro w' hSw
        obtain ⟨z1, z2, z3⟩ := hSw
        go_simp
        try with_reducible rfl
      try simp only [Act.put, List.setIfInBounds_toArray, List.set_cons_zero, List.set_cons_succ]
      refine wpAnyH_take (i := 13) (v := ?v13) rfl (by kernel_rfl) (by kernel_rfl) (by kernel_rfl) (fun _ _ _ h => h) (Or.inl ⟨by rfl, ?hy13⟩) hH ?rest13
      case hy13 =>
        intro w' hSw
        obtain ⟨z1, z2, z3⟩ := hSw
        go_simp
        try with_reducible rfl
      try simp only [Act.put, List.setIfInBounds_toArray, List.set_cons_zero, List.set_cons_succ]
      refine wpAnyH_take (i := 14) (v := ?v14) rfl (by kernel_rfl) (by kernel_rfl) (by kernel_rfl) (fun _ _ _ h => h) (Or.inl ⟨by rfl, ?hy14⟩) hH ?rest14
      case hy14 =>
        intro w' hSw
        obtain ⟨z1, z2, z3⟩ := hSw
        go_simp
        try with_reducible rfl
      try simp only [Act.put, List.setIfInBounds_toArray, List.set_cons_zero, List.set_cons_succ]
      refine wpAnyH_take (i := 15) (v := ?v15) rfl (by kernel_rfl) (by kernel_rfl) (by kernel_rfl) (fun _ _ _ h => h) (Or.inl ⟨by rfl, ?hy15⟩) hH ?rest15
      case hy15 =>
        intro w' hSw
        obtain ⟨z1, z2, z3⟩ := hSw
        go_simp
        try with_reducible rfl
      try simp only [Act.put, List.setIfInBounds_toArray, List.set_cons_zero, List.set_cons_succ]
      refine wpAnyH_take (i := 16) (v := ?v16) rfl (by kernel_rfl) (by kernel_rfl) (by kernel_rfl) (fun _ _ _ h => h) (Or.inl ⟨by rfl, ?hy16⟩) hH ?rest16
      case hy16 =>
        intro w' hSw
        obtain ⟨z1, z2, z3⟩ := hSw
        go_simp
        try with_reducible rfl
      try simp only [Act.put, List.setIfInBounds_toArray, List.set_cons_zero, List.set_cons_succ]
      refine wpAnyH_ready (rs := [1, 17]) (by kernel_rfl) (by simp) ?_
      refine AllReadyH.cons (i := 1) rfl (fun K hK => ?_) (AllReadyH.cons (i := 17) rfl (fun K hK => ?_) (AllReadyH.nil))
      · go_simp
        refine hK.out _ _ hH (fun hH => ?_)
        try simp only [Act.put, List.setIfInBounds_toArray, List.set_cons_zero, List.set_cons_succ]
        refine wpAnyH_ready (rs := [17]) (by kernel_rfl) (by simp) ?_
        refine AllReadyH.cons (i := 17) rfl (fun K hK => ?_) (AllReadyH.nil)
        go_simp
        refine hK.out _ _ ⟨a1, b1, c1⟩ (fun hH => ?_)
        try simp only [Act.put, List.setIfInBounds_toArray, List.set_cons_zero, List.set_cons_succ]
        refine wpAnyH_ready (rs := [18]) (by kernel_rfl) (by simp) ?_
        refine AllReadyH.cons (i := 18) rfl (fun K hK => ?_) (AllReadyH.nil)
        go_simp
        refine hK.out _ _ ⟨a2, b2, c2⟩ (fun hH => ?_)
        try simp only [Act.put, List.setIfInBounds_toArray, List.set_cons_zero, List.set_cons_succ]
        refine wpAnyH_take (i := 19) (v := ?v19) rfl (by kernel_rfl) (by kernel_rfl) (by kernel_rfl) (fun _ _ _ h => h) (Or.inl ⟨by rfl, ?hy19⟩) hH ?rest19
        case hy19 =>
          intro w' hSw
          obtain ⟨z1, z2, z3⟩ := hSw
          go_simp
          try with_reducible rfl
        try simp only [Act.put, List.setIfInBounds_toArray, List.set_cons_zero, List.set_cons_succ]
        refine wpAnyH_ready (rs := [20]) (by kernel_rfl) (by simp) ?_
        refine AllReadyH.cons (i := 20) rfl (fun K hK => ?_) (AllReadyH.nil)
        go_simp
        refine hK.out _ _ ⟨a3, b3, c3⟩ (fun hH => ?_)
        try simp only [Act.put, List.setIfInBounds_toArray, List.set_cons_zero, List.set_cons_succ]
        refine wpAnyH_done (by kernel_rfl) ?_ _
        go_wp2_with fail
        go_roundw
        case rel => exact ⟨k + 1, _, by omega, by go_num, HN, a3, HBN.out⟩
        case measure => simp [intOf]; omega
      · go_simp
        refine hK.out _ _ ⟨a1, b1, c1⟩ (fun hH => ?_)
        try simp only [Act.put, List.setIfInBounds_toArray, List.set_cons_zero, List.set_cons_succ]
        refine wpAnyH_ready (rs := [1]) (by kernel_rfl) (by simp) ?_
        refine AllReadyH.cons (i := 1) rfl (fun K hK => ?_) (AllReadyH.nil)
        go_simp
        refine hK.out _ _ hH (fun hH => ?_)
        try simp only [Act.put, List.setIfInBounds_toArray, List.set_cons_zero, List.set_cons_succ]
        refine wpAnyH_ready (rs := [18]) (by kernel_rfl) (by simp) ?_
        refine AllReadyH.cons (i := 18) rfl (fun K hK => ?_) (AllReadyH.nil)
        go_simp
        refine hK.out _ _ ⟨a2, b2, c2⟩ (fun hH => ?_)
        try simp only [Act.put, List.setIfInBounds_toArray, List.set_cons_zero, List.set_cons_succ]
        refine wpAnyH_take (i := 19) (v := ?v19b) rfl (by kernel_rfl) (by kernel_rfl) (by kernel_rfl) (fun _ _ _ h => h) (Or.inl ⟨by rfl, ?hy19b⟩) hH ?rest19b
        case hy19b =>
          intro w' hSw
          obtain ⟨z1, z2, z3⟩ := hSw
          go_simp
          try with_reducible rfl
        try simp only [Act.put, List.setIfInBounds_toArray, List.set_cons_zero, List.set_cons_succ]
        refine wpAnyH_ready (rs := [20]) (by kernel_rfl) (by simp) ?_
        refine AllReadyH.cons (i := 20) rfl (fun K hK => ?_) (AllReadyH.nil)
        go_simp
        refine hK.out _ _ ⟨a3, b3, c3⟩ (fun hH => ?_)
        try simp only [Act.put, List.setIfInBounds_toArray, List.set_cons_zero, List.set_cons_succ]
        refine wpAnyH_done (by kernel_rfl) ?_ _
        go_wp2_with fail
        go_roundw
        case rel => exact ⟨k + 1, _, by omega, by go_num, HN, a3, HBN.out⟩
        case measure => simp [intOf]; omega
    · obtain rfl : k = zs.length := by omega
      clear hlt hk
      obtain ⟨r1, r2, r3⟩ := HB.out
      clear HB
      rw [List.take_of_length_le (by rw [Cl.ea_length]; exact Nat.le_refl _)] at r2
      have hcu : ∃ g cap, u = .slice (some ⟨g, 0, none⟩) zs.length cap := by
        have h1 : wr.ownsRow (v.heap.size + 1) 40 2 u (Cl.ea K zs).length (shC (Cl.ea K zs)) := r2
        rw [Cl.ea_length] at h1
        obtain ⟨m, hm⟩ : ∃ m, zs.length = m + 1 := ⟨zs.length - 1, by omega⟩
        rw [hm] at h1 ⊢
        exact ownsRow_succ h1
      obtain ⟨g, cap, rfl⟩ := hcu
      have hze := r2.zn
      have HZE := Lib.hid (fun x (h : Below wr.heap.size wr x) => hze.bt h)
      have HZW := Lib.hid (fun x (h : Below wr.heap.size wr x) => (HZ.out wr hb).bt h)
      have HBW := Lib.hid hb
      have hd := r1.cell
      have hb : Below wr.heap.size wr wr := Below.refl _ _
      clear hze r1 r2 r3 HZ
      cases hve : Cl.vz (Cl.ea K zs)
      · have VE : Hid (∀ xw, Below wr.heap.size wr xw → Calls Tryd.prog 22 #[.agg #[.slice (some ⟨g, 0, none⟩) zs.length cap]] xw fun e w' => e = .returned (.bool false) ∧ Below xw.heap.size xw w') := Lib.hid (fun xw h => by
          have := valid_any _ cap (Cl.ea K zs) xw (HZE.out xw h)
          rw [Cl.ea_length] at this
          rw [hve] at this
          exact this)
        clear hve HV0
        go_wp2_with fail
        refine (VE.out _ hb).mono ?_
        rintro e v ⟨rfl, g⟩
        have hb' := Cl.Nb hb g
        have hc' := Cl.cell_bt hc g
        have hd' := Cl.cell_bt hd g
        clear g hb hc hd
        have hb := hb'
        have hc := hc'
        have hd := hd'
        clear hb' hc' hd'
        go_wp2_with fail
        go_ret
        exact ⟨rfl, Cl.Nb HBW.out hb⟩
      · have VE : Hid (∀ xw, Below wr.heap.size wr xw → Calls Tryd.prog 22 #[.agg #[.slice (some ⟨g, 0, none⟩) zs.length cap]] xw fun e w' => e = .returned (.bool true) ∧ Below xw.heap.size xw w') := Lib.hid (fun xw h => by
          have := valid_any _ cap (Cl.ea K zs) xw (HZE.out xw h)
          rw [Cl.ea_length] at this
          rw [hve] at this
          exact this)
        obtain ⟨a, b, c', d, hA, hB, ⟨q1, q2, q3, q4, q5, q6, q7, q8⟩, hsum⟩ := Cl.east_loc HV0.out hve (t := raw % 144001440) (by omega) (by omega)
        have LZ : Hid (∀ xw, Below wr.heap.size wr xw → Calls Tryd.prog 13 #[.agg #[.slice A zs.length c], .int .i64 (raw % 144001440)] xw fun e w' => e = .returned (.tuple #[.int .i64 a, .int .i64 b, .int .i64 0]) ∧ Below xw.heap.size xw w') := Lib.hid (fun xw h => by
          have := local_any A c zs (raw % 144001440) xw (HZW.out xw h)
          rw [hA] at this
          exact this)
        have LE : Hid (∀ xw, Below wr.heap.size wr xw → Calls Tryd.prog 13 #[.agg #[.slice (some ⟨g, 0, none⟩) zs.length cap], .int .i64 (raw % 144001440)] xw fun e w' => e = .returned (.tuple #[.int .i64 c', .int .i64 d, .int .i64 0]) ∧ Below xw.heap.size xw w') := Lib.hid (fun xw h => by
          have := local_any _ cap (Cl.ea K zs) (raw % 144001440) xw (HZE.out xw h)
          rw [Cl.ea_length] at this
          rw [hB] at this
          exact this)
        clear hA hB
        have hq : (1440 * c' + d == 1440 * a + b + K) = true := by rw [beq_iff_eq]; exact hsum
        clear hsum
        have hBEG := Cl.east_begin HV0.out hve hK0 (rd % 100001)
        clear hve HV0
        rcases hBEG with ⟨hA, x, y, hB⟩ | ⟨x, y, hA, hB, hxy⟩
        · have BZ : Hid (∀ xw, Below wr.heap.size wr xw → Calls Tryd.prog 17 #[.agg #[.slice A zs.length c], .int .i64 (rd % 100001)] xw fun e w' => e = .returned (.tuple #[.int .i64 0, .int .i64 10]) ∧ Below xw.heap.size xw w') := Lib.hid (fun xw h => by
            have := begin_any A c zs (rd % 100001) xw (HZW.out xw h)
            rw [hA] at this
            exact this)
          have BE : Hid (∀ xw, Below wr.heap.size wr xw → Calls Tryd.prog 17 #[.agg #[.slice (some ⟨g, 0, none⟩) zs.length cap], .int .i64 (rd % 100001)] xw fun e w' => e = .returned (.tuple #[.int .i64 x, .int .i64 y]) ∧ Below xw.heap.size xw w') := Lib.hid (fun xw h => by
            have := begin_any _ cap (Cl.ea K zs) (rd % 100001) xw (HZE.out xw h)
            rw [Cl.ea_length] at this
            rw [hB] at this
            exact this)
          clear hA hB
          go_wp2_with fail
          refine (VE.out _ hb).mono ?_
          rintro e v ⟨rfl, g⟩
          have hb' := Cl.Nb hb g
          have hc' := Cl.cell_bt hc g
          have hd' := Cl.cell_bt hd g
          clear g hb hc hd VE
          have hb := hb'
          have hc := hc'
          have hd := hd'
          clear hb' hc' hd'
          go_wp2_with fail
          generalize raw % 144001440 = t at *
          generalize rd % 100001 = dy at *
          refine (LZ.out _ hb).mono ?_
          rintro e v ⟨rfl, g⟩
          have hb' := Cl.Nb hb g
          have hc' := Cl.cell_bt hc g
          have hd' := Cl.cell_bt hd g
          clear g hb hc hd LZ
          have hb := hb'
          have hc := hc'
          have hd := hd'
          clear hb' hc' hd'
          go_wp2_with fail
          refine (LE.out _ hb).mono ?_
          rintro e v ⟨rfl, g⟩
          have hb' := Cl.Nb hb g
          have hc' := Cl.cell_bt hc g
          have hd' := Cl.cell_bt hd g
          clear g hb hc hd LE
          have hb := hb'
          have hc := hc'
          have hd := hd'
          clear hb' hc' hd'
          go_wp2_with fail
          refine (BZ.out _ hb).mono ?_
          rintro e v ⟨rfl, g⟩
          have hb' := Cl.Nb hb g
          have hc' := Cl.cell_bt hc g
          have hd' := Cl.cell_bt hd g
          clear g hb hc hd BZ
          have hb := hb'
          have hc := hc'
          have hd := hd'
          clear hb' hc' hd'
          go_wp2_with fail
          refine (BE.out _ hb).mono ?_
          rintro e v ⟨rfl, g⟩
          have hb' := Cl.Nb hb g
          have hc' := Cl.cell_bt hc g
          have hd' := Cl.cell_bt hd g
          clear g hb hc hd BE
          have hb := hb'
          have hc := hc'
          have hd := hd'
          clear hb' hc' hd'
          go_wp2_with fail
          go_ret
          exact ⟨rfl, Cl.Nb HBW.out hb⟩
        · have BZ : Hid (∀ xw, Below wr.heap.size wr xw → Calls Tryd.prog 17 #[.agg #[.slice A zs.length c], .int .i64 (rd % 100001)] xw fun e w' => e = .returned (.tuple #[.int .i64 x, .int .i64 0]) ∧ Below xw.heap.size xw w') := Lib.hid (fun xw h => by
            have := begin_any A c zs (rd % 100001) xw (HZW.out xw h)
            rw [hA] at this
            exact this)
          have BE : Hid (∀ xw, Below wr.heap.size wr xw → Calls Tryd.prog 17 #[.agg #[.slice (some ⟨g, 0, none⟩) zs.length cap], .int .i64 (rd % 100001)] xw fun e w' => e = .returned (.tuple #[.int .i64 y, .int .i64 0]) ∧ Below xw.heap.size xw w') := Lib.hid (fun xw h => by
            have := begin_any _ cap (Cl.ea K zs) (rd % 100001) xw (HZE.out xw h)
            rw [Cl.ea_length] at this
            rw [hB] at this
            exact this)
          clear hA hB
          have hxy' : decide (y ≤ x) = true := decide_eq_true hxy
          clear hxy
          go_wp2_with fail
          refine (VE.out _ hb).mono ?_
          rintro e v ⟨rfl, g⟩
          have hb' := Cl.Nb hb g
          have hc' := Cl.cell_bt hc g
          have hd' := Cl.cell_bt hd g
          clear g hb hc hd VE
          have hb := hb'
          have hc := hc'
          have hd := hd'
          clear hb' hc' hd'
          go_wp2_with fail
          generalize raw % 144001440 = t at *
          generalize rd % 100001 = dy at *
          refine (LZ.out _ hb).mono ?_
          rintro e v ⟨rfl, g⟩
          have hb' := Cl.Nb hb g
          have hc' := Cl.cell_bt hc g
          have hd' := Cl.cell_bt hd g
          clear g hb hc hd LZ
          have hb := hb'
          have hc := hc'
          have hd := hd'
          clear hb' hc' hd'
          go_wp2_with fail
          refine (LE.out _ hb).mono ?_
          rintro e v ⟨rfl, g⟩
          have hb' := Cl.Nb hb g
          have hc' := Cl.cell_bt hc g
          have hd' := Cl.cell_bt hd g
          clear g hb hc hd LE
          have hb := hb'
          have hc := hc'
          have hd := hd'
          clear hb' hc' hd'
          go_wp2_with fail
          refine (BZ.out _ hb).mono ?_
          rintro e v ⟨rfl, g⟩
          have hb' := Cl.Nb hb g
          have hc' := Cl.cell_bt hc g
          have hd' := Cl.cell_bt hd g
          clear g hb hc hd BZ
          have hb := hb'
          have hc := hc'
          have hd := hd'
          clear hb' hc' hd'
          go_wp2_with fail
          refine (BE.out _ hb).mono ?_
          rintro e v ⟨rfl, g⟩
          have hb' := Cl.Nb hb g
          have hc' := Cl.cell_bt hc g
          have hd' := Cl.cell_bt hd g
          clear g hb hc hd BE
          have hb := hb'
          have hc := hc'
          have hd := hd'
          clear hb' hc' hd'
          go_wp2_with fail
          go_ret
          exact ⟨rfl, Cl.Nb HBW.out hb⟩

theorem Cl.u16r {n : Int} (h : (Lit.int .u16 n).wf = true) : 0 ≤ n ∧ n < 65536 := by
  have : 0 ≤ n ∧ n ≤ 65535 := by simpa [Lit.wf, IntKind.min, IntKind.max, IntKind.signed, IntKind.bits] using h
  omega

theorem east_walk (A : Option Addr) (c : Nat) (zs : List Cl.Sh) (rb raw rd : Int) (w : World) (hp : PowC w.heap.size w) (hz : Zn w w.heap.size A zs) (hm : zs.length ≤ maxLen) (wi : (Lit.int .u16 rb).wf = true) (wj : (Lit.int .u32 raw).wf = true) (wk : (Lit.int .u32 rd).wf = true) :
    Calls Tryd.prog 10 #[.agg #[.slice A zs.length c], .int .u16 rb, .int .u32 raw, .int .u32 rd] w fun e w' => e = .returned (.bool true) ∧ Below w.heap.size w w' := by
  cases h : (decide ((zs.length : Int) ≤ 40) && Cl.vz zs)
  · exact east_no A c zs rb raw rd w hp hz h
  · simp only [Bool.and_eq_true] at h
    exact east_yes A c zs rb raw rd w hp hz h.2 (Cl.u16r wi).1 (Cl.u16r wi).2 (Cl.u32r wj).1 (Cl.u32r wj).2 (Cl.u32r wk).1 (Cl.u32r wk).2
end Go.Proofs.YtkkgefefbamcpaaDoor
