/- Plain mathematics: sums of words in any order, and turned round. -/
import Derived.Test.YtlcgpjeggelbaaaSumsQ
namespace Go.Proofs.Ytlcgpjeggelbaaa
set_option linter.unusedVariables false
open Go.PlainAid
def sw (z : Int) : Int := z % 256 * 256 + z / 256
theorem totTs1 (s : ByteArray) : totTs [s] = totT s := by simp [totTs]
theorem totTs2 (s t : ByteArray) : totTs [s, t] = totT s + totT t := by simp [totTs]
theorem wf_take {zs : List Int} (h : ∀ n ∈ zs, 0 ≤ n ∧ n ≤ 65535) (k : Nat) : ∀ n ∈ zs.take k, 0 ≤ n ∧ n ≤ 65535 := fun n hn => h n (List.mem_of_mem_take hn)
theorem wf_drop {zs : List Int} (h : ∀ n ∈ zs, 0 ≤ n ∧ n ≤ 65535) (k : Nat) : ∀ n ∈ zs.drop k, 0 ≤ n ∧ n ≤ 65535 := fun n hn => h n (List.mem_of_mem_drop hn)
theorem sum_split (zs : List Int) (k : Nat) : (zs.take k).sum + (zs.drop k).sum = zs.sum := by
  conv => rhs; rw [← List.take_append_drop k zs, List.sum_append]
theorem sumV_parts (zs : List Int) (h : ∀ n ∈ zs, 0 ≤ n ∧ n ≤ 65535) (k : Nat) : sumV [strOfNums (wordL (zs.take k)), strOfNums (wordL (zs.drop k))] = sumV [strOfNums (wordL zs)] := by
  rw [sumV_cl, sumV_cl, totTs1, totTs2, totT_W _ h, totT_W _ (wf_take h k), totT_W _ (wf_drop h k), sum_split]
theorem sumV_parts' (zs : List Int) (h : ∀ n ∈ zs, 0 ≤ n ∧ n ≤ 65535) (k : Nat) : sumV [strOfNums (wordL (zs.drop k)), strOfNums (wordL (zs.take k))] = sumV [strOfNums (wordL zs)] := by
  rw [sumV_cl, sumV_cl, totTs1, totTs2, totT_W _ h, totT_W _ (wf_take h k), totT_W _ (wf_drop h k), Int.add_comm, sum_split]
theorem sumV_joined (zs : List Int) (h : ∀ n ∈ zs, 0 ≤ n ∧ n ≤ 65535) (k : Nat) : sumV [strOfNums (wordL (zs.drop k)) ++ strOfNums (wordL (zs.take k))] = sumV [strOfNums (wordL zs)] := by
  have hw : ∀ n ∈ zs.drop k ++ zs.take k, 0 ≤ n ∧ n ≤ 65535 := by
    intro n hn
    rcases List.mem_append.1 hn with hn | hn
    · exact wf_drop h k n hn
    · exact wf_take h k n hn
  rw [strOfNums_append, ← wordL_append, sumV_cl, sumV_cl, totTs1, totTs1, totT_W _ h, totT_W _ hw, List.sum_append, Int.add_comm, sum_split]
theorem sw_sum : ∀ (zs : List Int) (_ : ∀ n ∈ zs, 0 ≤ n ∧ n ≤ 65535), ∃ q, (zs.map sw).sum = 256 * zs.sum - 65535 * q ∧ 0 ≤ zs.sum ∧ 0 ≤ (zs.map sw).sum ∧ ((zs.map sw).sum = 0 ↔ zs.sum = 0)
  | [], _ => ⟨0, by simp⟩
  | z :: r, h => by
    obtain ⟨q, h1, h2, h3, h4⟩ := sw_sum r (fun n hn => h n (by simp [hn]))
    have hz := h z (by simp)
    refine ⟨q + z / 256, ?_⟩
    simp only [List.map_cons, List.sum_cons]
    have e : sw z = z % 256 * 256 + z / 256 := rfl
    rw [e]
    refine ⟨by omega, by omega, by omega, ?_⟩
    constructor
    · intro hh
      have : (r.map sw).sum = 0 := by omega
      have := h4.1 this
      omega
    · intro hh
      have : r.sum = 0 := by omega
      have := h4.2 this
      omega
theorem sumV_sw (zs : List Int) (h : ∀ n ∈ zs, 0 ≤ n ∧ n ≤ 65535) : sumV [strOfNums (wordL (zs.map sw))] = sumV [strOfNums (wordL zs)] % 256 * 256 + sumV [strOfNums (wordL zs)] / 256 := by
  have hw : ∀ n ∈ zs.map sw, 0 ≤ n ∧ n ≤ 65535 := by
    intro n hn
    obtain ⟨z, hz, rfl⟩ := List.mem_map.1 hn
    have := h z hz
    unfold sw; omega
  rw [sumV_cl, sumV_cl, totTs1, totTs1, totT_W _ h, totT_W _ hw]
  obtain ⟨q, h1, h2, h3, h4⟩ := sw_sum zs h
  have c1 := cl_mod h2
  have c2 := cl_mod h3
  have c3 := cl_bd h2
  have c4 := cl_bd h3
  have c5 := cl_zero h2
  have c6 := cl_zero h3
  generalize cl zs.sum = c at *
  generalize cl (zs.map sw).sum = c' at *
  generalize zs.sum = S at *
  generalize (zs.map sw).sum = S' at *
  have c7 : c' = 0 ↔ c = 0 := by rw [c5, c6]; exact h4
  have m : c' % 65535 = (256 * c) % 65535 := by omega
  clear h4 c5 c6
  have n1 : c = c / 256 * 256 + c % 256 := by omega
  have n2 : (65535 - c) % 256 = 255 - c % 256 := by omega
  have n3 : (65535 - c) / 256 = 255 - c / 256 := by omega
  rw [n2, n3]
  have n4 : c' % 65535 = (c % 256 * 256 + c / 256) % 65535 := by omega
  by_cases h0 : c = 0
  · have := c7.2 h0; subst h0; omega
  · have : c' ≠ 0 := fun e => h0 (c7.1 e)
    omega
end Go.Proofs.Ytlcgpjeggelbaaa
