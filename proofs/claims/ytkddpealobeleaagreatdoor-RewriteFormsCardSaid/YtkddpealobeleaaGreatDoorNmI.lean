/- Layer 9: strings.ToLower at short ASCII texts; the program's Fold. -/
import Derived.Test.YtkddpealobeleaaGreatDoorNmG
import Derived.Test.YtkddpealobeleaaGreatDoorNmD
set_option linter.unusedSimpArgs false
set_option linter.unusedVariables false
namespace Go.Proofs.YtkddpealobeleaaGreatDoor
open Go.RowKit Go.Shelf
set_option maxRecDepth 100000
set_option maxHeartbeats 1000000

theorem Nm.take_snoc {l : Nm.T} {i : Nat} {x : UInt8} (h : l[i]? = some x) : l.take (i + 1) = l.take i ++ [x] := by
  rw [List.take_add_one, h]
  rfl
theorem Nm.any_snoc {l : Nm.T} {i : Nat} {x : UInt8} (h : l[i]? = some x) : (l.take (i + 1)).any Nm.isCap = ((l.take i).any Nm.isCap || Nm.isCap x) := by
  rw [Nm.take_snoc h, List.any_append]
  simp
/-- A stretch without capital letters. -/
theorem Nm.low_stretch {l : Nm.T} {p i : Nat} (hp : p ≤ i) (h : ∀ j, p ≤ j → j < i → ∀ x, l[j]? = some x → Nm.isCap x = false) : (l.take i).map Nm.low = (l.take p).map Nm.low ++ (l.drop p).take (i - p) := by
  have e : l.take i = l.take p ++ (l.drop p).take (i - p) := by rw [← List.take_add, show p + (i - p) = i from by omega]
  rw [e, List.map_append]
  congr 1
  refine Nm.low_id _ fun c hc => ?_
  obtain ⟨k, hk, rfl⟩ := List.getElem_of_mem hc
  rw [List.length_take, List.length_drop] at hk
  refine h (p + k) (by omega) (by omega) _ ?_
  rw [List.getElem_take, List.getElem_drop, List.getElem?_eq_getElem]
theorem Nm.low_cap32 {x : UInt8} (h1 : 65 ≤ x.toNat) (h2 : x.toNat ≤ 90) : (((x.toNat : Int) + 32)) = ((Nm.low x).toNat : Int) := by
  unfold Nm.low
  rw [if_pos ⟨h1, h2⟩]
  have : (UInt8.ofNat (x.toNat + 32)).toNat = (x.toNat + 32) % 256 := by simp
  omega

theorem Nm.lower_any (s : ByteArray) (w : World) (hs : s.size ≤ 200) (ha : ∀ c ∈ s.data.toList, c.toNat < 128) :
    Calls Tryz.prog 69 #[.string s] w fun e w' => e = .returned (.string (Nm.bt (s.data.toList.map Nm.low))) ∧ Below w.heap.size w w' := by
  have hlen : s.data.toList.length = s.size := (Lib.size_eq s).symm
  have HA := Lib.hid ha
  have HLEN := Lib.hid hlen
  clear ha hlen
  go_enter Tryz.func69, Tryz.ntmps69
  go_wp2
  go_loop [3, 4, 5] (fun s3 s4 s5 => ∃ (i : Nat) (hu : Bool), s3 = .bool true ∧ s4 = .bool hu ∧ s5 = .int .i64 (i : Int) ∧ i ≤ s.size ∧ Hid (hu = (s.data.toList.take i).any Nm.isCap)) (fun _ _ s5 => s.size - (intOf s5).toNat)
  case atStart => exact ⟨0, false, rfl, rfl, rfl, by omega, Lib.hid rfl⟩
  case round =>
    obtain ⟨i, hu, rfl, rfl, rfl, hi, HU⟩ := hrel
    by_cases hlt : i < s.size
    · obtain ⟨x, hx⟩ : ∃ x : UInt8, s[i] = x := ⟨_, rfl⟩
      have hxl : s.data.toList[i]? = some x := by rw [← hx]; exact Lib.data_getElem? s i hlt
      have hx128 := HA.out x (List.mem_of_getElem? hxl)
      have h128 : decide ((128 : Int) ≤ (x.toNat : Int)) = false := decide_eq_false (by omega)
      have hns := Nm.any_snoc hxl
      rw [← HU.out] at hns
      have HN := Lib.hid hns
      have hu2 : ∀ b : Bool, hu = b → s[i].toNat = x.toNat := fun _ _ => by rw [hx]
      clear hxl hns
      cases hu with
      | true =>
        go_wp2
        exact ⟨⟨i + 1, true, rfl, rfl, by go_num, by omega, Lib.hid (by rw [HN.out]; rfl)⟩, by simp [intOf]; omega⟩
      | false =>
        by_cases h65 : 65 ≤ x.toNat
        · have g1 : decide ((65 : Int) ≤ (x.toNat : Int)) = true := decide_eq_true (by omega)
          by_cases h90 : x.toNat ≤ 90
          · have g2 : decide ((x.toNat : Int) ≤ 90) = true := decide_eq_true (by omega)
            have HC : Hid (Nm.isCap x = true) := Lib.hid (by simp [Nm.isCap, h65, h90])
            clear h65 h90
            go_wp2
            exact ⟨⟨i + 1, true, rfl, rfl, by go_num, by omega, Lib.hid (by rw [HN.out, HC.out]; rfl)⟩, by simp [intOf]; omega⟩
          · have g2 : decide ((x.toNat : Int) ≤ 90) = false := decide_eq_false (by omega)
            have HC : Hid (Nm.isCap x = false) := Lib.hid (by simp [Nm.isCap]; omega)
            clear h65 h90
            go_wp2
            exact ⟨⟨i + 1, false, rfl, rfl, by go_num, by omega, Lib.hid (by rw [HN.out, HC.out]; rfl)⟩, by simp [intOf]; omega⟩
        · have g1 : decide ((65 : Int) ≤ (x.toNat : Int)) = false := decide_eq_false (by omega)
          have HC : Hid (Nm.isCap x = false) := Lib.hid (by simp [Nm.isCap]; omega)
          clear h65
          go_wp2
          exact ⟨⟨i + 1, false, rfl, rfl, by go_num, by omega, Lib.hid (by rw [HN.out, HC.out]; rfl)⟩, by simp [intOf]; omega⟩
    · have hie : i = s.size := by omega
      subst hie
      have hall : s.data.toList.take s.size = s.data.toList := List.take_of_length_le (by rw [HLEN.out]; exact Nat.le_refl _)
      have hHU := HU.out
      rw [hall] at hHU
      cases hu with
      | false =>
        have hid : s.data.toList.map Nm.low = s.data.toList := Nm.low_id _ fun c hc => by
          cases hcc : Nm.isCap c with
          | false => rfl
          | true => rw [List.any_eq_true.2 ⟨c, hc, hcc⟩] at hHU; cases hHU
        have hbt : Nm.bt s.data.toList = s := by simp [Nm.bt]
        have HID : Hid (Nm.bt (s.data.toList.map Nm.low) = s) := Lib.hid (by rw [hid, hbt])
        clear hall hHU hid hbt HU
        go_wp2
        go_ret
        exact ⟨congrArg (fun z => Ending.returned (.string z)) HID.out.symm, Below.refl _ _⟩
      | true =>
        have GR := Lib.hid (Nm.grow_fresh w.heap.size w.heap.size s.size (w.alloc (.cells #[.pointer none, .slice none 0 0] 91)) (Nat.le_refl _) (heap_alloc_new w _) (by simp) (by omega))
        clear hall hHU HU
        go_wp2_with fail
        refine GR.out.mono ?_
        rintro e w1 ⟨rfl, h1, hb1⟩
        have H1 := Lib.hid h1
        have HB1 : Hid (Below w.heap.size w w1) := Lib.hid ((Nm.al w _).trans (hb1.mono (Nat.le_refl _)))
        clear h1 hb1
        go_wp2_with fail
        go_loopw [8, 9, 10] (fun s8 s9 _ wr => ∃ p i : Nat, s8 = .int .i64 (p : Int) ∧ s9 = .int .i64 (i : Int) ∧ p ≤ i ∧ i ≤ s.size ∧ Hid (∀ j, p ≤ j → j < i → ∀ x, s.data.toList[j]? = some x → Nm.isCap x = false) ∧
          Hid (Lib.IsBuilder 91 5 w.heap.size w.heap.size (Lib.byteCells ((s.data.toList.take p).map Nm.low)) wr) ∧ Hid (Below w.heap.size w wr)) (fun _ s9 _ _ => s.size - (intOf s9).toNat)
        case atStart => exact ⟨0, 0, rfl, rfl, by omega, by omega, Lib.hid (fun j h1 h2 => by omega), H1, HB1⟩
        case round =>
          obtain ⟨p, i, rfl, rfl, hpi, hi, HNC, HI, HW⟩ := hrel
          have hLl : (Lib.byteCells ((s.data.toList.take p).map Nm.low)).length ≤ 200 := by
            have := HLEN.out
            rw [Lib.byteCells_length, List.length_map, List.length_take]
            omega
          have HLL := Lib.hid hLl
          clear hLl
          by_cases hlt : i < s.size
          · obtain ⟨x, hx⟩ : ∃ x : UInt8, s[i] = x := ⟨_, rfl⟩
            have hxl : s.data.toList[i]? = some x := by rw [← hx]; exact Lib.data_getElem? s i hlt
            have hx128 := HA.out x (List.mem_of_getElem? hxl)
            have HXL := Lib.hid hxl
            clear hxl
            by_cases hcap : 65 ≤ x.toNat ∧ x.toNat ≤ 90
            · obtain ⟨h65, h90⟩ := hcap
              have g1 : decide ((65 : Int) ≤ (x.toNat : Int)) = true := decide_eq_true (by omega)
              have g2 : decide ((x.toNat : Int) ≤ 90) = true := decide_eq_true (by omega)
              have h32 := Nm.low_cap32 h65 h90
              have hst := Nm.low_stretch hpi HNC.out
              have htk := Nm.take_snoc HXL.out
              have HST := Lib.hid hst
              have HTK := Lib.hid htk
              have h256 : (x.toNat : Int) + 32 < 256 := by omega
              have HB2 : Hid (∀ (bs : List Value) (v : World), Below w.heap.size w v → Lib.IsBuilder 91 5 w.heap.size w.heap.size bs v → bs.length ≤ 500 →
                  Calls Tryz.prog 113 #[.pointer (some ⟨w.heap.size, 0, none⟩), .int .u8 ((x.toNat : Int) + 32)] v fun e w' => e = .returned .nilIface ∧ Lib.IsBuilder 91 5 w.heap.size w.heap.size (bs ++ [.int .u8 ((x.toNat : Int) + 32)]) w' ∧ Below w.heap.size v w') :=
                Lib.hid (fun bs v hv hI hl => writeByte_any w.heap.size w.heap.size bs _ v hI (by omega) hv.size)
              have HFIN : Hid (Lib.byteCells ((s.data.toList.take p).map Nm.low) ++ Lib.byteCells ((s.data.toList.drop p).take (i - p)) ++ [.int .u8 ((x.toNat : Int) + 32)] = Lib.byteCells ((s.data.toList.take (i + 1)).map Nm.low)) := Lib.hid (by
                rw [HTK.out, List.map_append, HST.out, Lib.byteCells_append, Lib.byteCells_append, h32]
                rfl)
              have HSTR : Hid (Lib.strCells (s.extract p i) = Lib.byteCells ((s.data.toList.drop p).take (i - p))) := Lib.hid (by rw [Lib.strCells_eq, Lib.extract_data])
              clear h32
              by_cases hp : p < i
              · have HEX : Hid ((s.extract p i).size ≤ 200) := Lib.hid (by
                  have := HLEN.out
                  rw [Lib.size_eq, Lib.extract_data, List.length_take, List.length_drop]
                  omega)
                have V1 := Lib.hid (writeString_any w.heap.size w.heap.size _ (s.extract p i) wr HI.out (by have := HLL.out; have := HEX.out; omega) HW.out.size)
                have hp1 : (p : Int) ≤ (i : Int) := by omega
                have hp2 : (i : Int) ≤ (s.size : Int) := by omega
                go_wp2_with fail
                refine V1.out.mono ?_
                rintro e w3 ⟨rfl, h3, hb3⟩
                have H3 := Lib.hid h3
                have HB3 := Lib.hid (HW.out.trans hb3)
                clear h3 hb3
                go_wp2_with fail
                refine (HB2.out _ _ HB3.out H3.out (by rw [List.length_append, Lib.strCells_length]; have := HLL.out; have := HEX.out; omega)).mono ?_
                rintro e w4 ⟨rfl, h4, hb4⟩
                rw [HSTR.out, HFIN.out] at h4
                have H4 := Lib.hid h4
                have HB4 := Lib.hid (HB3.out.trans hb4)
                clear h4 hb4
                go_wp2
                exact ⟨⟨i + 1, i + 1, by go_num, by go_num, by omega, by omega, Lib.hid (fun j h1 h2 => by omega), H4, HB4⟩, by simp [intOf]; omega⟩
              · obtain rfl : p = i := by omega
                go_wp2_with fail
                refine (HB2.out _ _ HW.out HI.out (by have := HLL.out; omega)).mono ?_
                rintro e w4 ⟨rfl, h4, hb4⟩
                have hf := HFIN.out
                rw [Nat.sub_self, List.take_zero, show Lib.byteCells [] = [] from rfl, List.append_nil] at hf
                rw [hf] at h4
                have H4 := Lib.hid h4
                have HB4 := Lib.hid (HW.out.trans hb4)
                clear h4 hb4 hf
                go_wp2
                exact ⟨⟨p + 1, p + 1, by go_num, by go_num, by omega, by omega, Lib.hid (fun j h1 h2 => by omega), H4, HB4⟩, by simp [intOf]; omega⟩
            · have g : decide ((65 : Int) ≤ (x.toNat : Int)) = false ∨ (decide ((65 : Int) ≤ (x.toNat : Int)) = true ∧ decide ((x.toNat : Int) ≤ 90) = false) := by
                by_cases h65 : 65 ≤ x.toNat
                · exact .inr ⟨decide_eq_true (by omega), decide_eq_false (by omega)⟩
                · exact .inl (decide_eq_false (by omega))
              have HC : Hid (Nm.isCap x = false) := Lib.hid (by simp [Nm.isCap]; omega)
              have HNX : Hid (∀ j, p ≤ j → j < i + 1 → ∀ x, s.data.toList[j]? = some x → Nm.isCap x = false) := Lib.hid (fun j h1 h2 z hz => by
                by_cases e : j = i
                · subst e
                  rw [HXL.out] at hz
                  cases hz
                  exact HC.out
                · exact HNC.out j h1 (by omega) z hz)
              clear hcap
              rcases g with g1 | ⟨g1, g2⟩
              · go_wp2
                exact ⟨⟨p, i + 1, rfl, by go_num, by omega, by omega, HNX, HI, HW⟩, by simp [intOf]; omega⟩
              · go_wp2
                exact ⟨⟨p, i + 1, rfl, by go_num, by omega, by omega, HNX, HI, HW⟩, by simp [intOf]; omega⟩
          · have hie : i = s.size := by omega
            subst hie
            have hall : s.data.toList.take s.size = s.data.toList := List.take_of_length_le (by rw [HLEN.out]; exact Nat.le_refl _)
            have hst := Nm.low_stretch hpi HNC.out
            rw [hall] at hst
            have HST := Lib.hid hst
            clear hall hst
            by_cases hp : p < s.size
            · have HEX : Hid ((s.extract p s.size).size ≤ 200) := Lib.hid (by
                have := HLEN.out
                rw [Lib.size_eq, Lib.extract_data, List.length_take, List.length_drop]
                omega)
              have V1 := Lib.hid (writeString_any w.heap.size w.heap.size _ (s.extract p s.size) wr HI.out (by have := HLL.out; have := HEX.out; omega) HW.out.size)
              have hp1 : (p : Int) ≤ (s.size : Int) := by omega
              go_wp2_with fail
              refine V1.out.mono ?_
              rintro e w3 ⟨rfl, h3, hb3⟩
              rw [Lib.strCells_eq, Lib.extract_data, ← Lib.byteCells_append, ← HST.out] at h3
              have HB3 := Lib.hid (HW.out.trans hb3)
              have S1 := Lib.hid (Tryz.Builder_String_any w.heap.size w.heap.size _ w3 h3 HB3.out.size)
              clear h3 hb3
              go_wp2_with fail
              refine S1.out.mono ?_
              rintro e w5 ⟨rfl, hb5⟩
              have HB5 := Lib.hid (HB3.out.trans hb5)
              clear hb5
              go_wp2
              go_ret
              exact ⟨rfl, HB5.out⟩
            · obtain rfl : p = s.size := by omega
              have hst := HST.out
              rw [Nat.sub_self, List.take_zero, List.append_nil] at hst
              have hI := HI.out
              rw [← hst] at hI
              have S1 := Lib.hid (Tryz.Builder_String_any w.heap.size w.heap.size _ wr hI HW.out.size)
              clear hst hI
              go_wp2_with fail
              refine S1.out.mono ?_
              rintro e w5 ⟨rfl, hb5⟩
              have HB5 := Lib.hid (HW.out.trans hb5)
              clear hb5
              go_wp2
              go_ret
              exact ⟨rfl, HB5.out⟩
end Go.Proofs.YtkddpealobeleaaGreatDoor
