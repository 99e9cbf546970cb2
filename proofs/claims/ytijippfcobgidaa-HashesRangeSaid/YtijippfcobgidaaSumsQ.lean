/- Plain mathematics: sums that go along. -/
import Derived.Test.YtijippfcobgidaaSumsP
import Derived.Test.YtijippfcobgidaaFieldsQ
namespace Go.Proofs.Ytijippfcobgidaa
set_option linter.unusedVariables false
open Go.PlainAid
theorem addW_mod {a b : Int} : addW a b % 65535 = (a + b) % 65535 := by unfold addW; split <;> omega
theorem updW_mod {n f t : Int} : (65535 - updW n f t) % 65535 = (65535 - n - f + t) % 65535 := by
  have h1 := addW_mod (a := 65535 - n) (b := 65535 - f)
  have h2 := addW_mod (a := addW (65535 - n) (65535 - f)) (b := t)
  unfold updW
  omega
theorem updWs_mod (s t : ByteArray) (n : Int) : ∀ i, (65535 - updWs n s t i) % 65535 = (65535 - n - tot s i + tot t i) % 65535
  | 0 => by simp [updWs, tot]
  | i + 1 => by
    have h1 := updWs_mod s t n i
    have h2 := updW_mod (n := updWs n s t i) (f := g16 s (2 * i)) (t := g16 t (2 * i))
    simp only [updWs, tot]
    omega
/-- Updates of a text's sum to another text's words is that one's sum, but for 0 and 65535. -/
theorem upd_new (s t : ByteArray) (hz : s.size = t.size) (he : s.size % 2 = 0) : updV (sumV [s]) s t % 65535 = sumV [t] % 65535 := by
  have hs := sumV_cl [s]
  have ht := sumV_cl [t]
  have e1 : totTs [s] = totT s := by simp [totTs]
  have e2 : totTs [t] = totT t := by simp [totTs]
  rw [e1] at hs
  rw [e2] at ht
  have c1 := cl_mod (totT_nonneg s)
  have c2 := cl_mod (totT_nonneg t)
  have hv : updV (sumV [s]) s t = updWs (sumV [s]) s t (half s) := by
    unfold updV
    rw [if_neg (by omega)]
    unfold half
    congr 1
    omega
  have hh : half t = half s := by unfold half; omega
  have hm := updWs_mod s t (sumV [s]) (half s)
  rw [hv]
  have t1 : totT s = tot s (half s) := rfl
  have t2 : totT t = tot t (half s) := by unfold totT; rw [hh]
  omega
end Go.Proofs.Ytijippfcobgidaa
