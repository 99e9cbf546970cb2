/- A text, both bytes of each word having changed places. -/
import Derived.Test.YtijippfcobgidaaSumsLaid
import Derived.Test.YtijippfcobgidaaSumsQ
import Derived.Laws.IdiomStrings
namespace Go.Proofs.Ytijippfcobgidaa
open Go.ChangeShapes Go.WideShapes Go.ChangeAt Go.RowKit Go.PlainAid
/-- The bytes, the first pairs of them having changed places. -/
def tf (s : ByteArray) (i j : Nat) : Int := if j < 2 * i then (if j % 2 = 0 then bt s (j + 1) else bt s (j - 1)) else bt s j
/-- The bytes that stand in a block from its beginning on. -/
def Bts (w : World) (b n : Nat) (f : Nat → Int) : Prop := ∀ j, j < n → w.cell? ⟨b, j, none⟩ = some (.int .u8 (f j)) ∧ w.frozen? ⟨b, j, none⟩ = false
theorem Bts.set {w : World} {b n : Nat} {f : Nat → Int} (h : Bts w b n f) (k : Nat) (v : Int) (hk : k < n) : Bts (w.setCell ⟨b, k, none⟩ (.int .u8 v)) b n (fun j => if j = k then v else f j) := by
  intro j hj
  obtain ⟨h1, h2⟩ := h j hj
  obtain ⟨h3, h4⟩ := h k hk
  refine ⟨?_, by simpa using h2⟩
  show _ = some (Value.int .u8 (if j = k then v else f j))
  by_cases e : j = k
  · subst e
    rw [if_pos rfl]
    exact World.cell?_setCell_same' _ _ _ (by rw [h3]; rfl)
  · rw [if_neg e, World.cell?_setCell_other _ _ _ _ (by intro he; injection he with h5 h6; exact e h6.symm)]
    exact h1
theorem Bts.congr {w : World} {b n : Nat} {f g : Nat → Int} (h : Bts w b n f) (e : ∀ j, j < n → f j = g j) : Bts w b n g := fun j hj => by rw [← e j hj]; exact h j hj
theorem bytes_of_string (s : ByteArray) (w : World) : ∃ (w1 : World) (c : Nat), (convert 9 48 (.string s)).run Try.prog w = .ok (.slice (some ⟨w.heap.size, 0, none⟩) s.size c) w1 ∧ Below w.heap.size w w1 ∧
    w.heap.size < w1.heap.size ∧ Bts w1 w.heap.size s.size (bt s) := by
  refine ⟨_, _, run_bytes_of_string w _ _ 5 s Try.underlying9 Try.underlying48 Try.underlying5, ((Below.refl _ _).drew).alloc (by simp) _, by simp, ?_⟩
  intro j hj
  have hl : (bytesRow s (grownCap w s.size 0 5))[j]? = some (.int .u8 (bt s j)) := by
    have hj' : j < s.data.size := hj
    unfold bytesRow
    rw [Array.getElem?_append_left (by simpa using hj')]
    have : s.data[j]? = some s.data[j] := Array.getElem?_eq_getElem hj'
    simp [this]
    unfold bt
    rw [dif_pos hj]
    rfl
  constructor
  · have := World.cell?_alloc_mark w.drew (bytesRow s (grownCap w s.size 0 5)) 5 ((bytesRow s (grownCap w s.size 0 5)).size, (bytesRow s (grownCap w s.size 0 5)).size + 1) j
    rw [hl] at this
    exact this
  · have := World.frozen?_alloc_mark w.drew (bytesRow s (grownCap w s.size 0 5)) 5 (bytesRow s (grownCap w s.size 0 5)).size ((bytesRow s (grownCap w s.size 0 5)).size + 1) j
    have hlt : j < (bytesRow s (grownCap w s.size 0 5)).size := by
      rcases Nat.lt_or_ge j (bytesRow s (grownCap w s.size 0 5)).size with h | h
      · exact h
      · rw [Array.getElem?_eq_none h] at hl; cases hl
    refine this.trans ?_
    simp; omega
def turnedB (s : ByteArray) : ByteArray := strOfNums ((List.range s.size).map (tf s (s.size / 2)))
theorem tf_step (s : ByteArray) (i j : Nat) : (if j = 2 * i + 1 then tf s i (2 * i) else if j = 2 * i then tf s i (2 * i + 1) else tf s i j) = tf s (i + 1) j := by
  by_cases h1 : j = 2 * i + 1
  · subst h1
    unfold tf
    rw [if_pos rfl, if_neg (by omega), if_pos (by omega), if_neg (by omega), show 2 * i + 1 - 1 = 2 * i by omega]
  · by_cases h2 : j = 2 * i
    · subst h2
      unfold tf
      rw [if_neg (by omega), if_pos rfl, if_neg (by omega), if_pos (by omega), if_pos (by omega)]
    · unfold tf
      rw [if_neg h1, if_neg h2]
      by_cases h3 : j < 2 * i
      · by_cases h4 : j % 2 = 0
        · rw [if_pos h3, if_pos h4, if_pos (by omega)]
        · rw [if_pos h3, if_neg h4, if_pos (by omega)]
      · rw [if_neg h3, if_neg (by omega)]
theorem wordL_swap (zs : List Int) (h : ∀ n ∈ zs, 0 ≤ n ∧ n ≤ 65535) : turnedB (strOfNums (wordL zs)) = strOfNums (wordL (zs.map fun z => z % 256 * 256 + z / 256)) := by
  unfold turnedB
  rw [size_W]
  congr 1
  apply List.ext_getElem
  · simp [wordL_length]
  · intro j h1 h2
    have hj : j < 2 * zs.length := by simpa using h1
    have hj2 : j / 2 < zs.length := by omega
    rw [← getD_lt _ _ 0 h2]
    simp only [List.getElem_map, List.getElem_range]
    have hz := h zs[j / 2] (List.getElem_mem hj2)
    have hg : (zs.map fun z => z % 256 * 256 + z / 256).getD (j / 2) 0 = zs[j / 2] % 256 * 256 + zs[j / 2] / 256 := by
      rw [getD_lt _ _ _ (by simpa using hj2)]; simp
    have hb : ∀ i, bt (strOfNums (wordL zs)) i = (wordL zs).getD i 0 := fun i => bt_nums _ _ (wordL_wf zs h)
    unfold tf
    rw [if_pos (by omega)]
    by_cases he : j % 2 = 0
    · have ej : j = 2 * (j / 2) := by omega
      rw [if_pos he, hb, show j + 1 = 2 * (j / 2) + 1 by omega, wordL_odd, show (wordL (zs.map fun z => z % 256 * 256 + z / 256)).getD j 0 = (wordL (zs.map fun z => z % 256 * 256 + z / 256)).getD (2 * (j / 2)) 0 by rw [← ej], wordL_even, hg, getD_lt _ _ _ hj2]
      omega
    · have ej : j = 2 * (j / 2) + 1 := by omega
      rw [if_neg he, hb, show j - 1 = 2 * (j / 2) by omega, wordL_even, show (wordL (zs.map fun z => z % 256 * 256 + z / 256)).getD j 0 = (wordL (zs.map fun z => z % 256 * 256 + z / 256)).getD (2 * (j / 2) + 1) 0 by rw [← ej], wordL_odd, hg, getD_lt _ _ _ hj2]
      omega
end Go.Proofs.Ytijippfcobgidaa
