/- Letters' contract in one form; the letters of one byte each. -/
import Derived.Test.YtcjlnmfbanknhaaDoorNmS
import Derived.BigQuiet
set_option linter.unusedSimpArgs false
set_option linter.unusedVariables false
namespace Go.Proofs.YtcjlnmfbanknhaaDoor
open Go.RowKit Go.Shelf
set_option maxRecDepth 100000
set_option maxHeartbeats 1000000
def Nm.LL (s : Nat) (w : Nm.T) : List ByteArray := if Nm.isW s w = true then (Nm.ls s w).map Nm.bt else []
def Nm.le (s : Nat) (w : Nm.T) : Int := if Nm.isW s w = true then 0 else 1
theorem Nm.letters_uni (k : Int) (word : ByteArray) (w : World) (hm : word.size ≤ maxLen) (h : Nm.Tb w.heap.size w) :
    Calls Tryd.prog 7 #[.int .i64 k, .string word] w fun e w' => ∃ A c, e = .returned (.tuple #[.slice A (Nm.LL (Nm.sc k) word.data.toList).length c, .int .i64 (Nm.le (Nm.sc k) word.data.toList)]) ∧ Strs w' w'.heap.size A (Nm.LL (Nm.sc k) word.data.toList) ∧ Below w.heap.size w w' := by
  cases hw : Nm.isW (Nm.sc k) word.data.toList with
  | true =>
    refine (Nm.letters_ok k word w hw hm h).mono ?_
    rintro e w' ⟨v, rfl, o, g⟩
    obtain ⟨A, c, rfl, s, _, _⟩ := o.form
    unfold Nm.LL Nm.le
    rw [if_pos hw, if_pos hw]
    exact ⟨A, c, rfl, s, g⟩
  | false =>
    refine (Nm.letters_bad k word w hw hm h).mono ?_
    rintro e w' ⟨rfl, g⟩
    unfold Nm.LL Nm.le
    rw [if_neg (by rw [hw]; decide), if_neg (by rw [hw]; decide)]
    exact ⟨none, 0, rfl, fun k hk => absurd hk (by simp), g⟩
theorem Nm.LL_len (s : Nat) (w : Nm.T) : (Nm.LL s w).length ≤ 12 := by
  unfold Nm.LL
  split
  · rename_i h
    rw [List.length_map]
    exact (Nm.isW_iff.1 h).2.2
  · simp
/-! ### letters of one byte -/
theorem Nm.rd_sing {s : Nat} : ∀ w : Nm.T, (∀ c ∈ w, Nm.one s c = true) → (∀ c ∈ w, (Nm.ab s).se.contains c = false) → Nm.rd s w = (w.map (fun c => [c]), [])
  | [], _, _ => rfl
  | [x], h, _ => by simp only [Nm.rd]; rw [if_pos (h x (by simp))]; rfl
  | x :: y :: u, h, k => by
    have h2 : Nm.two s x y = false := by unfold Nm.two; rw [k y (by simp), Bool.and_false]
    have ih := Nm.rd_sing (y :: u) (fun c hc => h c (List.mem_cons_of_mem _ hc)) (fun c hc => k c (List.mem_cons_of_mem _ hc))
    simp only [Nm.rd]
    rw [if_neg (by rw [h2]; decide), if_pos (h x (by simp)), ih]
    rfl
theorem Nm.isW_bytes {s : Nat} {w : Nm.T} (h : Nm.isW s w = true) : ∀ c ∈ w, (Nm.byteOk s c || (Nm.ab s).se.contains c) = true := by
  have hw := Nm.ls_sum h
  intro c hc
  rw [← hw] at hc
  exact Nm.rd_bytes s w c hc
theorem Nm.isW_sing {s : Nat} {w : Nm.T} (h : ∀ c ∈ w, Nm.one s c = true) (k : ∀ c ∈ w, (Nm.ab s).se.contains c = false) (h1 : 1 ≤ w.length) (h2 : w.length ≤ 12) : Nm.isW s w = true :=
  Nm.isW_of (Nm.rd_sing w h k) (by rwa [List.length_map]) (by rwa [List.length_map])
theorem Nm.ls_sing {s : Nat} {w : Nm.T} (h : ∀ c ∈ w, Nm.one s c = true) (k : ∀ c ∈ w, (Nm.ab s).se.contains c = false) : Nm.ls s w = w.map (fun c => [c]) := Nm.ls_of (Nm.rd_sing w h k)
theorem Nm.len_sing {s : Nat} {w : Nm.T} (hw : Nm.isW s w = true) (h : ∀ c ∈ w, Nm.one s c = true) (k : ∀ c ∈ w, (Nm.ab s).se.contains c = false) : 1 ≤ w.length ∧ w.length ≤ 12 := by
  have := (Nm.isW_iff.1 hw).2
  rwa [Nm.ls_sing h k, List.length_map] at this
theorem Nm.plain_cased {w : Nm.T} (h : Nm.isW 1 w = true) : Nm.isW 2 w = true ∧ Nm.ls 2 w = Nm.ls 1 w := by
  have hb := Nm.isW_bytes h
  have key : ∀ c : UInt8, (!(Nm.byteOk 1 c || (Nm.ab 1).se.contains c) || (Nm.one 1 c && !(Nm.ab 1).se.contains c && Nm.one 2 c && !(Nm.ab 2).se.contains c)) = true :=
    fun c => Nm.all_bytes (p := fun c => (!(Nm.byteOk 1 c || (Nm.ab 1).se.contains c) || (Nm.one 1 c && !(Nm.ab 1).se.contains c && Nm.one 2 c && !(Nm.ab 2).se.contains c))) (by decide +kernel) c
  have hc : ∀ c ∈ w, ((Nm.one 1 c = true ∧ (Nm.ab 1).se.contains c = false) ∧ Nm.one 2 c = true) ∧ (Nm.ab 2).se.contains c = false := fun c hc => by
    have k := key c
    rw [hb c hc] at k
    simpa only [Bool.not_true, Bool.false_or, Bool.and_eq_true, Bool.not_eq_true'] using k
  have a1 : ∀ c ∈ w, Nm.one 1 c = true := fun c h => (hc c h).1.1.1
  have a2 : ∀ c ∈ w, (Nm.ab 1).se.contains c = false := fun c h => (hc c h).1.1.2
  have b1 : ∀ c ∈ w, Nm.one 2 c = true := fun c h => (hc c h).1.2
  have b2 : ∀ c ∈ w, (Nm.ab 2).se.contains c = false := fun c h => (hc c h).2
  have hl := Nm.len_sing h a1 a2
  exact ⟨Nm.isW_sing b1 b2 hl.1 hl.2, by rw [Nm.ls_sing a1 a2, Nm.ls_sing b1 b2]⟩
theorem Nm.abjad_plain {w : Nm.T} (h : Nm.isW 3 w = true) (hq : w.contains 39 = false) : Nm.isW 1 w = true ∧ Nm.ls 1 w = Nm.ls 3 w := by
  have hb := Nm.isW_bytes h
  have key : ∀ c : UInt8, (!(Nm.byteOk 3 c || (Nm.ab 3).se.contains c) || c == 39 || (Nm.one 3 c && !(Nm.ab 3).se.contains c && Nm.one 1 c && !(Nm.ab 1).se.contains c)) = true :=
    fun c => Nm.all_bytes (p := fun c => (!(Nm.byteOk 3 c || (Nm.ab 3).se.contains c) || c == 39 || (Nm.one 3 c && !(Nm.ab 3).se.contains c && Nm.one 1 c && !(Nm.ab 1).se.contains c))) (by decide +kernel) c
  have hc : ∀ c ∈ w, ((Nm.one 3 c = true ∧ (Nm.ab 3).se.contains c = false) ∧ Nm.one 1 c = true) ∧ (Nm.ab 1).se.contains c = false := fun c hc => by
    have k := key c
    have h39 : (c == 39) = false := by
      cases hh : (c == 39) with
      | false => rfl
      | true =>
        have e : c = 39 := by simpa using hh
        subst e
        rw [List.contains_iff_mem.2 hc] at hq
        cases hq
    rw [hb c hc, h39] at k
    simpa only [Bool.not_true, Bool.false_or, Bool.and_eq_true, Bool.not_eq_true'] using k
  have a1 : ∀ c ∈ w, Nm.one 3 c = true := fun c h => (hc c h).1.1.1
  have a2 : ∀ c ∈ w, (Nm.ab 3).se.contains c = false := fun c h => (hc c h).1.1.2
  have b1 : ∀ c ∈ w, Nm.one 1 c = true := fun c h => (hc c h).1.2
  have b2 : ∀ c ∈ w, (Nm.ab 1).se.contains c = false := fun c h => (hc c h).2
  have hl := Nm.len_sing h a1 a2
  exact ⟨Nm.isW_sing b1 b2 hl.1 hl.2, by rw [Nm.ls_sing a1 a2, Nm.ls_sing b1 b2]⟩
theorem Nm.syllab_plain {w : Nm.T} (h : Nm.isW 4 w = true) (hl : w.length ≤ 12) : Nm.isW 1 w = true := by
  have hb := Nm.isW_bytes h
  have key : ∀ c : UInt8, (!(Nm.byteOk 4 c || (Nm.ab 4).se.contains c) || (Nm.one 1 c && !(Nm.ab 1).se.contains c)) = true :=
    fun c => Nm.all_bytes (p := fun c => (!(Nm.byteOk 4 c || (Nm.ab 4).se.contains c) || (Nm.one 1 c && !(Nm.ab 1).se.contains c))) (by decide +kernel) c
  have hc : ∀ c ∈ w, Nm.one 1 c = true ∧ (Nm.ab 1).se.contains c = false := fun c hc => by
    have k := key c
    rw [hb c hc] at k
    simpa only [Bool.not_true, Bool.false_or, Bool.and_eq_true, Bool.not_eq_true'] using k
  have h1 := List.length_pos_iff.2 (Nm.isW_ne h)
  exact Nm.isW_sing (fun c h => (hc c h).1) (fun c h => (hc c h).2) (by omega) hl
end Go.Proofs.YtcjlnmfbanknhaaDoor
