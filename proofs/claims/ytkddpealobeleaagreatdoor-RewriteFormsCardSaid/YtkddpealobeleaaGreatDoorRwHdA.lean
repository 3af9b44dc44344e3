/- Layer 10: the chapter's table, and what the program says of it. -/
import Derived.Test.YtkddpealobeleaaGreatDoorRwKK
import Derived.Test.YtkddpealobeleaaGreatDoorRwTab
import Derived.Test.YtkddpealobeleaaGreatDoorRwMF
import Derived.Test.YtkddpealobeleaaGreatDoorRwCm
set_option linter.unusedSimpArgs false
set_option linter.unusedVariables false
namespace Go.Proofs.YtkddpealobeleaaGreatDoor
open Go.RowKit Go.Shelf
set_option maxRecDepth 100000
set_option maxHeartbeats 4000000
theorem Rw.isL_good {t : Rw.TV} {k : Int} {x : ByteArray} (h : Rw.isL t k x = true) : Rw.Good (Rw.rus k t.R) ∧ (Rw.lts k x).length ≤ 12 := by
  obtain ⟨h1, h2⟩ := Rw.isL_word h
  exact ⟨Rw.rus_good (Rw.okT_rl h1).2.2, (Rw.isW_lts h2).2⟩
/-- The forms, if they are the ones written. -/
theorem Rw.forms_is (t : Rw.TV) (k : Int) (x : ByteArray) (most : Int) (w : World) (h : t.In w) (hT : Nm.Tb w.heap.size w) (hm : x.size ≤ maxLen) (gs : Rw.Mp) (hL : Rw.isL t k x = true) (hA : Rw.isAre (Rw.all (Rw.rus k t.R) 12 (Rw.lts k x)) gs most = true) (hlen : gs.length ≤ 1000) :
    Calls Tryz.prog 14 #[t.val, .int .i64 k, .string x, .int .i64 most] w fun e w' => ∃ u g, e = .returned (.tuple #[u, .slice (some ⟨g, 0, none⟩) gs.length gs.length, .int .i64 0]) ∧ OwnS w' w.heap.size u (gs.map fun y => Nm.bt y.1) ∧
      Rw.Zs w' w'.heap.size (some ⟨g, 0, none⟩) (gs.map fun y => (y.2 : Int)) ∧ Below w.heap.size w w' := by
  refine (Rw.formsT_any t k x most w h hT hm).mono ?_
  obtain ⟨hg, hl⟩ := Rw.isL_good hL
  rintro e w' ⟨hb, ⟨h1, _⟩ | ⟨_, h2, _⟩ | ⟨_, fs, ha, _, _, _, v, g, rfl, ho, hge, hh⟩⟩
  · rw [hL] at h1
    cases h1
  · exact (h2.no hg hl hA hlen).elim
  · obtain rfl := ha.is hg hl hA
    refine ⟨v, g, rfl, ho, Rw.Zs.of (T := 3) ?_, hb⟩
    rw [hh]
    simp
theorem Rw.forms_bad (t : Rw.TV) (k : Int) (x : ByteArray) (most : Int) (w : World) (h : t.In w) (hT : Nm.Tb w.heap.size w) (hm : x.size ≤ maxLen) (hL : Rw.isL t k x = false) :
    Calls Tryz.prog 14 #[t.val, .int .i64 k, .string x, .int .i64 most] w fun e w' => e = .returned (.tuple #[.slice none 0 0, .slice none 0 0, .int .i64 1]) ∧ Below w.heap.size w w' := by
  refine (Rw.formsT_any t k x most w h hT hm).mono ?_
  rintro e w' ⟨hb, ⟨h1, rfl⟩ | ⟨h2, _⟩ | ⟨h2, _⟩⟩
  · exact ⟨rfl, hb⟩
  · rw [hL] at h2
    cases h2
  · rw [hL] at h2
    cases h2
theorem Rw.Rls.drop {w : World} {B : Nat} {ad : Addr} {l : List Rw.Rl} (h : Rw.Rls w B (some ad) l) (k : Nat) : Rw.Rls w B (some (ad.add (k * 4))) (l.drop k) := fun j hj => by
  rw [List.length_drop] at hj
  obtain ⟨ad', e, hlt, h0, h1, h2, h3⟩ := h (k + j) (by omega)
  cases e
  have e : (ad.add (k * 4)).add (j * 4) = ad.add ((k + j) * 4) := by rw [Rw.add_add]; congr 1; omega
  refine ⟨_, rfl, by rw [Rw.add_block]; exact hlt, ?_⟩
  rw [e, List.getElem_drop]
  exact ⟨h0, h1, h2, h3⟩
def Rw.ex (A : Option Addr) (a : Nat) (B : Option Addr) (b : Nat) (C : Option Addr) (c : Nat) : Rw.TV := ⟨A, a, B, b, C, c, Rw.exR, [⟨1, ⟨#[97, 108]⟩, 1⟩], [⟨1, ⟨#[97]⟩, 3⟩], 4, 2, 1⟩
def Rw.ex5 (A : Option Addr) (a : Nat) (C : Option Addr) (c : Nat) : Rw.TV := ⟨A, a, none, 0, C, c, [⟨1, ⟨#[116, 104]⟩, ⟨#[116]⟩, 2⟩], [], [⟨1, ⟨#[97]⟩, 3⟩], 4, 2, 1⟩
def Rw.ex0 : Rw.TV := ⟨none, 0, none, 0, none, 0, [], [], [], 0, 0, 0⟩
section
variable (A : Option Addr) (a : Nat) (B : Option Addr) (b : Nat) (C : Option Addr) (c : Nat)
theorem Rw.ex_val : (Rw.ex A a B b C c).val = .agg #[.slice A 6 a, .slice B 1 b, .slice C 1 c, .int .i64 4, .int .i64 2, .int .i64 1] := rfl
theorem Rw.ex5_val : (Rw.ex5 A a C c).val = .agg #[.slice A 1 a, .slice none 0 0, .slice C 1 c, .int .i64 4, .int .i64 2, .int .i64 1] := rfl
theorem Rw.ex_ok : Rw.okT (Rw.ex A a B b C c) = true := by
  have : Rw.okT (Rw.ex A a B b C c) = (Rw.okL 6 1 1 && (Rw.okC 4 && (Rw.okC 2 && (Rw.okC 1 && (Rw.oksRl Rw.exR && (Rw.oksDp 12 [⟨1, ⟨#[97, 108]⟩, 1⟩] && Rw.oksDp 4 [⟨1, ⟨#[97]⟩, 3⟩])))))) := rfl
  rw [this]
  decide +kernel
theorem Rw.ex5_ok : Rw.okT (Rw.ex5 A a C c) = true := by
  have : Rw.okT (Rw.ex5 A a C c) = (Rw.okL 1 0 1 && (Rw.okC 4 && (Rw.okC 2 && (Rw.okC 1 && (Rw.oksRl [⟨1, ⟨#[116, 104]⟩, ⟨#[116]⟩, 2⟩] && (Rw.oksDp 12 [] && Rw.oksDp 4 [⟨1, ⟨#[97]⟩, 3⟩])))))) := rfl
  rw [this]
  decide +kernel
theorem Rw.ex0_ok : Rw.okT Rw.ex0 = false := by decide +kernel
theorem Rw.ex_isL (x : ByteArray) (r : Bool) (h : Nm.isW 1 x.data.toList = r) : Rw.isL (Rw.ex A a B b C c) 1 x = r := by
  unfold Rw.isL
  rw [Rw.ex_ok, Bool.true_and]
  exact h
theorem Rw.ex_vars : Rw.varsV (Rw.ex A a B b C c) 1 ⟨#[97, 110, 110, 97]⟩ = [⟨⟨#[97, 110, 110, 97]⟩, -1, 0⟩, ⟨⟨#[97, 110, 110]⟩, 0, 3⟩] := by
  unfold Rw.varsV
  rw [if_pos (Rw.ex_isL A a B b C c _ true (by decide +kernel))]
  show (⟨Rw.fd ⟨#[97, 110, 110, 97]⟩, -1, 0⟩ :: Rw.endsF (Rw.lts 1 ⟨#[97, 110, 110, 97]⟩) 1 0 [⟨1, ⟨#[97]⟩, 3⟩] : List Rw.Vr) = _
  decide +kernel
theorem Rw.ex_drop1 : Rw.dropV (Rw.ex A a B b C c) 1 ⟨#[97, 108]⟩ = 1 := by
  unfold Rw.dropV
  rw [if_pos (Rw.ex_isL A a B b C c _ true (by decide +kernel))]
  show Rw.dropF 1 (Rw.fd ⟨#[97, 108]⟩) 4 [⟨1, ⟨#[97, 108]⟩, 1⟩] = 1
  decide +kernel
theorem Rw.ex_drop2 : Rw.dropV (Rw.ex A a B b C c) 1 ⟨#[97, 110, 110, 97]⟩ = 4 := by
  unfold Rw.dropV
  rw [if_pos (Rw.ex_isL A a B b C c _ true (by decide +kernel))]
  show Rw.dropF 1 (Rw.fd ⟨#[97, 110, 110, 97]⟩) 4 [⟨1, ⟨#[97, 108]⟩, 1⟩] = 4
  decide +kernel
def Rw.exTx : ByteArray := ⟨#[114, 117, 108, 101, 32, 112, 108, 97, 105, 110, 32, 34, 116, 104, 34, 32, 116, 111, 32, 34, 116, 34, 32, 99, 111, 115, 116, 32, 50, 59, 10, 101, 110, 100, 32, 112, 108, 97, 105, 110, 32, 34, 97, 34, 32, 51, 59, 10, 99, 111, 115, 116, 115, 32, 52, 32, 50, 32, 49, 59, 10]⟩
theorem Rw.ex5_text : Nm.bt (Rw.textT (Rw.ex5 A a C c)) = Rw.exTx := by
  show Nm.bt (Rw.rs [⟨1, ⟨#[116, 104]⟩, ⟨#[116]⟩, 2⟩] ++ Rw.ds Rw.dropW [] ++ Rw.ds Rw.endW [⟨1, ⟨#[97]⟩, 3⟩] ++ Rw.costsL 4 2 1) = _
  decide +kernel
theorem Rw.ex_f1 : Rw.isAre (Rw.all (Rw.rus 1 (Rw.ex A a B b C c).R) 12 (Rw.lts 1 ⟨#[97, 110, 110, 97]⟩)) [([97, 110, 97], 1), ([97, 110, 110, 97], 0)] 5 = true := by
  show Rw.isAre (Rw.all (Rw.rus 1 Rw.exR) 12 (Rw.lts 1 ⟨#[97, 110, 110, 97]⟩)) [([97, 110, 97], 1), ([97, 110, 110, 97], 0)] 5 = true
  decide +kernel
theorem Rw.ex_f2 : Rw.isAre (Rw.all (Rw.rus 1 (Rw.ex A a B b C c).R) 12 (Rw.lts 1 ⟨#[116, 104, 97]⟩)) [([116, 97], 2), ([116, 104, 97], 0)] 9 = true := by
  show Rw.isAre (Rw.all (Rw.rus 1 Rw.exR) 12 (Rw.lts 1 ⟨#[116, 104, 97]⟩)) [([116, 97], 2), ([116, 104, 97], 0)] 9 = true
  decide +kernel
theorem Rw.ex_f3 : Rw.isAre (Rw.all (Rw.rus 1 (Rw.ex A a B b C c).R) 12 (Rw.lts 1 ⟨#[98, 97, 98]⟩)) [] 100 = true := by
  show Rw.isAre (Rw.all (Rw.rus 1 Rw.exR) 12 (Rw.lts 1 ⟨#[98, 97, 98]⟩)) [] 100 = true
  decide +kernel
end
end Go.Proofs.YtkddpealobeleaaGreatDoor
