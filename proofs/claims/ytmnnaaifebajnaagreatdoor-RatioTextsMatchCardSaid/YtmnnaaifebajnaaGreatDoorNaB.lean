/- A list of numbers that the call has made itself, read and written in place; carrying (settled). -/
import Derived.Test.YtmnnaaifebajnaaGreatDoorNaA
import Derived.Laws.OwnMore
set_option linter.unusedSimpArgs false
set_option linter.unusedVariables false
namespace Go.Proofs.YtmnnaaifebajnaaGreatDoor
open Go.RowKit
set_option maxRecDepth 100000

def OwnZ (w : World) (B g c : Nat) (l : List Int) : Prop := w.ownsRow B 3 1 (.slice (some ⟨g, 0, none⟩) l.length c) l.length (l.map (Value.int .i64))

theorem OwnZ.facts {w : World} {B g c : Nat} {l : List Int} (h : OwnZ w B g c l) : B ≤ g ∧ g < w.heap.size ∧ l.length ≤ c ∧ c ≤ maxLen := by
  rcases h.2 with ⟨h', _⟩ | ⟨g', cap', cur, h', hb, hg, hnc, hcm, _⟩
  · simp at h'
  · simp only [Value.slice.injEq, Option.some.injEq, Addr.mk.injEq, and_true, true_and] at h'
    obtain ⟨rfl, rfl⟩ := h'
    exact ⟨hb, (Array.getElem?_eq_some_iff.1 hg).1, hnc, hcm⟩

theorem OwnZ.cell {w : World} {B g c : Nat} {l : List Int} (h : OwnZ w B g c l) (k : Nat) (hk : k < l.length) : w.cell? ⟨g, k, none⟩ = some (.int .i64 (l.getD k 0)) := by
  have := World.ownsRow.cellAt h k (by omega)
  rw [this, List.getElem?_map, List.getElem?_eq_getElem hk, List.getD_eq_getElem?_getD, List.getElem?_eq_getElem hk]
  rfl

theorem OwnZ.frozen {w : World} {B g c : Nat} {l : List Int} (h : OwnZ w B g c l) (k : Nat) : w.frozen? ⟨g, k, none⟩ = false := World.ownsRow.frozenAt h k

theorem OwnZ.stored {w : World} {B g c : Nat} {l : List Int} (h : OwnZ w B g c l) (k : Nat) (u : Int) : OwnZ (w.setCell ⟨g, k, none⟩ (.int .i64 u)) B g c (l.set k u) := by
  have := (World.ownsRow.stored h k (.int .i64 u)).1
  unfold OwnZ
  rw [List.length_set, List.map_set]
  exact this

theorem OwnZ.below {w w0 : World} {B g c : Nat} {l : List Int} (h : OwnZ w B g c l) (hb : Below B w0 w) (k : Nat) (u : Int) : Below B w0 (w.setCell ⟨g, k, none⟩ (.int .i64 u)) :=
  hb.trans ((Below.refl _ _).grown (World.ownsRow.stored h k (.int .i64 u)).2 (Nat.le_trans h.facts.1 (Nat.le_of_lt h.facts.2.1)) fun j hj => by cases hj; exact h.facts.1)

theorem OwnZ.ints {w : World} {B g c : Nat} {l : List Int} {p : List Nat} (h : OwnZ w B g c l) (hp : l = p.map fun n : Nat => (n : Int)) : Ints w w.heap.size (some ⟨g, 0, none⟩) p := by
  intro k hk
  refine ⟨_, rfl, h.facts.2.1, ?_⟩
  have := h.cell k (by rw [hp]; simpa using hk)
  rw [hp] at this
  have e : (⟨g, 0, none⟩ : Addr).add k = ⟨g, k, none⟩ := by
    simp only [Addr.add, Nat.zero_add]
    split
    · subst_vars; rfl
    · rfl
  rw [e, this, List.getD_eq_getElem?_getD, List.getElem?_map, List.getElem?_eq_getElem hk, List.getD_eq_getElem?_getD, List.getElem?_eq_getElem hk]
  rfl

theorem Ints.take {w : World} {B : Nat} {A : Option Addr} {l : List Nat} (h : Ints w B A l) (k : Nat) : Ints w B A (l.take k) := by
  intro j hj
  rw [List.length_take] at hj
  obtain ⟨ad, e, h1, h2⟩ := h j (by omega)
  refine ⟨ad, e, h1, ?_⟩
  rw [h2, List.getD_eq_getElem?_getD, List.getD_eq_getElem?_getD, List.getElem?_take_of_lt (by omega)]

/-- Dividing towards zero and what is left, carried: as dividing downwards. -/
theorem tdiv_facts (y : Int) : (Int.tmod y 1000000 < 0 → Int.tdiv y 1000000 - 1 = y / 1000000 ∧ Int.tmod y 1000000 + 1000000 = y % 1000000) ∧ (¬ Int.tmod y 1000000 < 0 → Int.tdiv y 1000000 = y / 1000000 ∧ Int.tmod y 1000000 = y % 1000000) := by
  have h1 := Int.mul_tdiv_add_tmod y 1000000
  have h2 : Int.tmod y 1000000 < 1000000 := Int.tmod_lt_of_pos y (by omega)
  have h3 : -1000000 < Int.tmod y 1000000 := by
    have := Int.tmod_lt_of_pos (-y) (b := 1000000) (by omega)
    rw [Int.neg_tmod] at this
    omega
  generalize Int.tmod y 1000000 = r at *
  generalize Int.tdiv y 1000000 = q at *
  omega

theorem getD_app (p : List Nat) (l : List Int) (k : Nat) (h : p.length = k) : ((p.map fun n : Nat => (n : Int)) ++ l.drop k).getD k 0 = l.getD k 0 := by
  rw [List.getD_eq_getElem?_getD, List.getD_eq_getElem?_getD, List.getElem?_append_right (by simp [h]), List.length_map, h, Nat.sub_self, List.getElem?_drop, Nat.add_zero]

theorem set_app (p : List Nat) (l : List Int) (k : Nat) (u : Nat) (h : p.length = k) (hk : k < l.length) : ((p.map fun n : Nat => (n : Int)) ++ l.drop k).set k (u : Int) = ((p ++ [u]).map fun n : Nat => (n : Int)) ++ l.drop (k + 1) := by
  rw [List.set_append_right _ _ (by simp [h]), List.length_map, h, Nat.sub_self, List.drop_eq_getElem_cons hk, List.set_cons_zero, List.map_append, List.append_assoc]
  rfl

theorem settled_any (B g c n : Nat) (l : List Int) (w : World) (ho : OwnZ w B g c l) (hl : l.length ≤ 1000000) (hz : ∀ z ∈ l, -20000000000000000 ≤ z ∧ z ≤ 20000000000000000) (hv : Na.lz l = (n : Int)) (hn : n < 1000000 ^ l.length) :
    Calls Tryz.prog 100 #[.slice (some ⟨g, 0, none⟩) l.length c] w fun e w' => e = .returned (.slice (some ⟨g, 0, none⟩) (Na.lim n).length c) ∧ Ints w' w'.heap.size (some ⟨g, 0, none⟩) (Na.lim n) ∧ Below B w w' := by
  have HZ := Lib.hid hz
  have HV := Lib.hid hv
  have HN := Lib.hid hn
  have hcm := ho.facts.2.2
  have HO := Lib.hid ho
  clear hz hv hn ho
  go_enter Tryz.func100, Tryz.ntmps100
  go_wp2
  go_loopw [3, 4, 5, 8] (fun cr _ _ i wr => ∃ (k : Nat) (p : List Nat) (x : Int), k ≤ l.length ∧ i = .int .i64 (k : Int) ∧ cr = .int .i64 x ∧ -100000000000 ≤ x ∧ x ≤ 100000000000 ∧ Hid (p.length = k) ∧ Hid (∀ d ∈ p, d < 1000000) ∧ Hid ((Na.lv p : Int) + ((1000000 ^ k : Nat) : Int) * (x + Na.lz (l.drop k)) = (n : Int)) ∧ Hid (OwnZ wr B g c ((p.map fun n : Nat => (n : Int)) ++ l.drop k)) ∧ Below B w wr) (fun _ _ _ i _ => l.length - (intOf i).toNat)
  case atStart => exact ⟨0, [], 0, by omega, rfl, rfl, by omega, by omega, Lib.hid rfl, Lib.hid (by simp), Lib.hid (by simpa [Na.lv_nil] using HV.out), Lib.hid (by simpa using HO.out), Below.refl _ _⟩
  case round =>
    obtain ⟨k, p, x, hk, rfl, rfl, hx1, hx2, HP, HD, HE, HR, hb⟩ := hrel
    by_cases hlt : k < l.length
    · have hcell := HR.out.cell k (by simp [HP.out]; omega)
      rw [getD_app p l k HP.out] at hcell
      have hzb := HZ.out (l.getD k 0) (by rw [List.getD_eq_getElem?_getD, List.getElem?_eq_getElem hlt]; exact List.getElem_mem hlt)
      have HLD := Lib.hid (Na.lz_drop l k hlt)
      have hfr := HR.out.frozen k
      have HST := Lib.hid (fun u : Nat => (set_app p l k u HP.out hlt) ▸ HR.out.stored k (u : Int))
      have HSB := Lib.hid (fun u : Nat => HR.out.below hb k (u : Int))
      generalize l.getD k 0 = z at *
      have hT := tdiv_facts (z + x)
      have hu : ((z + x) % 1000000) = ((((z + x) % 1000000).toNat : Nat) : Int) := by omega
      have HQ := Lib.hid (Na.carry_step p k x z (Na.lz (l.drop (k + 1))) n HP.out (by rw [← HLD.out]; exact HE.out))
      have hul : ((z + x) % 1000000).toNat < 1000000 := by omega
      have fin : ∃ (k_1 : Nat) (p : List Nat) (x_1 : Int), k_1 ≤ l.length ∧ Value.int IntKind.i64 ((k : Int) + 1) = Value.int IntKind.i64 (k_1 : Int) ∧ Value.int IntKind.i64 ((z + x) / 1000000) = Value.int IntKind.i64 x_1 ∧ -100000000000 ≤ x_1 ∧ x_1 ≤ 100000000000 ∧ Hid (p.length = k_1) ∧ Hid (∀ d ∈ p, d < 1000000) ∧ Hid ((Na.lv p : Int) + ((1000000 ^ k_1 : Nat) : Int) * (x_1 + Na.lz (l.drop k_1)) = (n : Int)) ∧ Hid (OwnZ (wr.setCell ⟨g, k, none⟩ (.int .i64 ((z + x) % 1000000))) B g c ((p.map fun n : Nat => (n : Int)) ++ l.drop k_1)) ∧ Below B w (wr.setCell ⟨g, k, none⟩ (.int .i64 ((z + x) % 1000000))) := by
        generalize ((z + x) % 1000000).toNat = u at *
        rw [hu]
        refine ⟨k + 1, p ++ [u], _, by omega, by go_num, rfl, by omega, by omega, Lib.hid (by rw [List.length_append, HP.out]; rfl), Lib.hid ?_, Lib.hid HQ.out, Lib.hid (HST.out u), HSB.out u⟩
        intro d hd
        rcases List.mem_append.1 hd with h | h
        · exact HD.out d h
        · have : d = u := by simpa using h
          omega
      have FIN := Lib.hid fin
      clear hu HQ hul fin HST HSB HLD HE HV HN
      by_cases hneg : Int.tmod (z + x) 1000000 < 0
      · go_wp2
        exact ⟨FIN.out, by simp [intOf]; omega⟩
      · have ht := hT.2 hneg
        go_wp2
        exact ⟨FIN.out, by simp [intOf]; omega⟩
    · obtain rfl : k = l.length := by omega
      have e := Na.carry_end p l.length n x HP.out HD.out (by simpa [Na.lz_nil] using HE.out) HN.out
      have hpl := HP.out
      have ho : OwnZ wr B g c (p.map fun n : Nat => (n : Int)) := by simpa using HR.out
      have hi := ho.ints rfl
      have TR := Lib.hid (trimmed_any (some ⟨g, 0, none⟩) p c wr hi (by omega) (by omega) hcm.2 HD.out)
      rw [e, hpl] at TR
      have HT : Hid (Ints wr wr.heap.size (some ⟨g, 0, none⟩) (Na.lim n)) := by
        have h1 : Na.lim n = p.take (Na.lim n).length := by
          rw [← e]
          exact Na.lim_take p HD.out
        refine Lib.hid ?_
        rw [h1]
        exact hi.take _
      clear hi ho HE HP HD HV HN
      go_wp2_with fail
      refine TR.out.mono ?_
      rintro e w1 ⟨rfl, rfl⟩
      go_wp2_with fail
      go_ret
      exact ⟨rfl, HT.out, hb⟩
end Go.Proofs.YtmnnaaifebajnaaGreatDoor
