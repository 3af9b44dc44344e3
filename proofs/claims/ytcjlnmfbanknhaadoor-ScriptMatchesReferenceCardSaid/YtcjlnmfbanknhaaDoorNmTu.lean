/- Text's contract in one form; what Parse returns of a name's text; two names in their boxes (for ScriptTexts). -/
import Derived.Test.YtcjlnmfbanknhaaDoorNmFe
set_option linter.unusedSimpArgs false
set_option linter.unusedVariables false
namespace Go.Proofs.YtcjlnmfbanknhaaDoor
open Go.RowKit Go.Shelf
set_option maxRecDepth 100000
set_option maxHeartbeats 1000000
def Nm.wl (ss : List ByteArray) : List Nm.T := ss.map fun x => x.data.toList
def Nm.okT (k : Int) (ss : List ByteArray) : Bool := Nm.okN (Nm.sc k) (Nm.wl ss)
def Nm.tx (k : Int) (ss : List ByteArray) : ByteArray := if Nm.okT k ss = true then Nm.bt (Nm.textL (Nm.sc k) (Nm.wl ss)) else ⟨#[]⟩
def Nm.te (k : Int) (ss : List ByteArray) : Int := if Nm.okT k ss = true then 0 else 1
theorem Nm.text_uni (k : Int) (A : Option Addr) (c : Nat) (ss : List ByteArray) (w : World) (hs : Strs w w.heap.size A ss) (hc : ss.length ≤ c) (hc2 : c ≤ maxLen) (hm : ∀ x ∈ ss, x.size ≤ maxLen) (h : Nm.Tb w.heap.size w) :
    Calls Tryd.prog 11 #[.agg #[.int .i64 k, .slice A ss.length c]] w fun e w' => e = .returned (.tuple #[.string (Nm.tx k ss), .int .i64 (Nm.te k ss)]) ∧ Below w.heap.size w w' := by
  unfold Nm.tx Nm.te
  cases hok : Nm.okT k ss with
  | true =>
    have := Nm.text_ok k A c ss w hok hs hc hc2 hm h
    rw [if_pos rfl, if_pos rfl]
    exact this
  | false =>
    have := Nm.text_bad k A c ss w hok hs hc hc2 hm h
    rw [if_neg (by decide), if_neg (by decide)]
    exact this
theorem Nm.bt_wl (ss : List ByteArray) : (Nm.wl ss).map Nm.bt = ss := by
  unfold Nm.wl
  rw [List.map_map]
  conv => rhs; rw [← List.map_id ss]
  exact List.map_congr_left fun x _ => ByteArray.ext (Array.toList_inj.1 (by simp [Nm.bt_list]))
theorem Nm.okT_sc {k : Int} {ss : List ByteArray} (h : Nm.okT k ss = true) : 1 ≤ Nm.sc k ∧ Nm.sc k ≤ 4 ∧ k = (Nm.sc k : Int) := by
  have h5 := Nm.sc_lt k
  have h0 : Nm.sc k ≠ 0 := by
    intro e
    unfold Nm.okT at h
    rw [e] at h
    obtain ⟨hw, h1, _⟩ := Nm.okN_iff h
    cases hl : Nm.wl ss with
    | nil => rw [hl] at h1; simp at h1
    | cons x l =>
      have h2 := hw x (by rw [hl]; simp)
      have h3 := (Nm.isW_iff.1 h2)
      have h4 : (Nm.rd 0 x).1 = [] := by
        cases x with
        | nil => rfl
        | cons y u =>
          have : Nm.ln 0 (y :: u) = 0 := by cases u <;> simp [Nm.ln, Nm.one, Nm.two, Nm.ab]
          rw [Nm.rd_stop this]
      have h6 := h3.2.1
      unfold Nm.ls at h6
      rw [h4] at h6
      simp at h6
  refine ⟨by omega, by omega, ?_⟩
  unfold Nm.sc at h0 ⊢
  split
  · omega
  · rename_i h; rw [if_neg h] at h0; exact absurd rfl h0
theorem Nm.tx_list {k : Int} {ss : List ByteArray} (h : Nm.okT k ss = true) : (Nm.tx k ss).data.toList = Nm.textL (Nm.sc k) (Nm.wl ss) := by
  unfold Nm.tx
  rw [if_pos h, Nm.bt_list]
theorem Nm.tx_parse {k : Int} {ss : List ByteArray} (h : Nm.okT k ss = true) : Nm.parse (Nm.tx k ss).data.toList = ⟨Nm.sc k, Nm.wl ss, 0, 0⟩ := by
  rw [Nm.tx_list h]
  exact Nm.parse_text (Nm.okT_sc h).1 (Nm.okT_sc h).2.1 h
theorem Nm.tx_size {k : Int} {ss : List ByteArray} (h : Nm.okT k ss = true) : (Nm.tx k ss).size ≤ 157 := by
  rw [Lib.size_eq, Nm.tx_list h]
  exact Nm.textL_le h
theorem Nm.wl_inj {ss tt : List ByteArray} (h : Nm.wl ss = Nm.wl tt) : ss = tt := by rw [← Nm.bt_wl ss, h, Nm.bt_wl]
/-- Different valid names have different texts. -/
theorem Nm.tx_eq {k l : Int} {ss tt : List ByteArray} (h : Nm.okT k ss = true) (g : Nm.okT l tt = true) : Nm.tx k ss = Nm.tx l tt ↔ (k = l ∧ ss = tt) := by
  obtain ⟨h1, h4, hk⟩ := Nm.okT_sc h
  obtain ⟨g1, g4, gl⟩ := Nm.okT_sc g
  constructor
  · intro e
    have e2 : Nm.textL (Nm.sc k) (Nm.wl ss) = Nm.textL (Nm.sc l) (Nm.wl tt) := by rw [← Nm.tx_list h, ← Nm.tx_list g, e]
    obtain ⟨a, b⟩ := Nm.text_inj h1 h4 g1 g4 h g e2
    exact ⟨by rw [hk, gl, a], Nm.wl_inj b⟩
  · rintro ⟨rfl, rfl⟩
    rfl
/-- Two names' boxes. -/
structure Nm.Two (b : Nat) (k l : Int) (A B : Option Addr) (n m c d : Nat) (V : World) : Prop where
  a0 : V.cell? ⟨b, 0, none⟩ = some (.int .i64 k)
  a1 : V.cell? ⟨b, 1, none⟩ = some (.slice A n c)
  b0 : V.cell? ⟨b + 1, 0, none⟩ = some (.int .i64 l)
  b1 : V.cell? ⟨b + 1, 1, none⟩ = some (.slice B m d)
  lt : b + 1 < V.heap.size
theorem Nm.Two.bt {b : Nat} {k l : Int} {A B : Option Addr} {n m c d : Nat} {V W : World} (h : Nm.Two b k l A B n m c d V) (hb : Below V.heap.size V W) : Nm.Two b k l A B n m c d W :=
  have hl := h.lt
  ⟨(hb.cell (p := ⟨b, 0, none⟩) (show b < _ by omega)).trans h.a0, (hb.cell (p := ⟨b, 1, none⟩) (show b < _ by omega)).trans h.a1, (hb.cell (p := ⟨b + 1, 0, none⟩) h.lt).trans h.b0, (hb.cell (p := ⟨b + 1, 1, none⟩) h.lt).trans h.b1, Nat.lt_of_lt_of_le h.lt hb.size⟩
end Go.Proofs.YtcjlnmfbanknhaaDoor
