/- A region that draws its order, one operation of which (a store) comes last: facts on the world are asked up to that one alone. Operations that read under those facts are taken first; the others one by one, in each order. -/
import Derived.Test.YtbbadpidolfleaaLead
import Derived.OrdersHeld
import Derived.Deep.RegionHeld
import Derived.BigRegion
import Derived.Deep.DeepCutAuto
namespace Go.Proofs.Ytbbadpidolfleaa
set_option linter.unusedVariables false
set_option linter.unusedSimpArgs false
open Go.ChangeShapes Go.WideShapes Go.ChangeAt Go.RowKit
section
variable {P : Program} {ops : Array Oper} {md : Region.Mode} {Q : Exit → Act → World → Prop} {S : World → Prop} {z : Nat}
/-- Whatever order is picked; behind each operation but number 'z' the facts hold. -/
def wpTill (P : Program) (md : Region.Mode) (ops : Array Oper) (Q : Exit → Act → World → Prop) (S : World → Prop) (z : Nat) : Nat → Array Bool → Act → World → Prop
  | 0, done, x, u => Region.ready md ops done = [] ∧ Q .normal x u
  | n + 1, done, x, u => (Region.ready md ops done = [] → Q .normal x u) ∧
    ∀ k ∈ Region.ready md ops done, wpOp P ops Q k (fun x' u' => (k ≠ z → S u') ∧ wpTill P md ops Q S z n (done.setIfInBounds k true) x' u') x u
theorem wpAny_till : ∀ (n : Nat) (done : Array Bool) (x : Act) (u : World), wpTill P md ops Q S z n done x u → wpAny P md ops Q n done x u
  | 0, _, _, _, h => h
  | n + 1, _, _, _, h => ⟨h.1, fun k hk => wpOp_mono (fun x' u' g => wpAny_till n _ x' u' g.2) (h.2 k hk)⟩
theorem wpTill_front {i : Nat} {oi : Oper} {v : Value} (hi : ops[i]? = some oi) (hsel : ∀ (j : Nat) (o : Oper) cs b, ops[j]? = some o → o.op ≠ .select cs b) (hQ : ∀ c a w, Q (.panic c) (a.put oi.dst v) w → Q (.panic c) a w) (hz : waitsB md ops i z = true) (hiz : i ≠ z) :
    ∀ (n : Nat) (done : Array Bool) (x : Act) (u : World), (∀ j oj, ops[j]? = some oj → j ≠ i → done.getD j true = false → (∀ e ∈ oj.after, Region.binds md e = true → e.on ≠ i) → oi.apart ops oj = true) →
      i ∈ Region.ready md ops done → YieldsIf P ops S oi v x → S u → wpTill P md ops Q S z n (done.setIfInBounds i true) (x.put oi.dst v) u → wpTill P md ops Q S z (n + 1) done x u := by
  intro n
  induction n with
  | zero =>
    intro done x u _ hr hy hS H
    refine ⟨fun h => (by rw [h] at hr; cases hr), fun k hk => ?_⟩
    rcases Nat.decEq k i with hki | rfl
    · have h0 := ready_mono hk hki
      rw [H.1] at h0
      cases h0
    · exact hy.wpOp hi hS ⟨fun _ => hS, H⟩
  | succ n ih =>
    intro done x u hfree hr hy hS H
    refine ⟨fun h => (by rw [h] at hr; cases hr), fun k hk => ?_⟩
    rcases Nat.decEq k i with hki | rfl
    · obtain ⟨hun, ok, hok, hall⟩ := mem_ready.1 hk
      have none_on : ∀ e ∈ ok.after, Region.binds md e = true → e.on ≠ i := fun e he hb heq => by
        have g1 := hall e he hb
        have g0 := (mem_ready.1 hr).1
        rw [heq] at g1
        rcases Nat.lt_or_ge i done.size with hl | hl
        · simp [hl] at g0 g1
          rw [g0] at g1
          cases g1
        · simp [Array.getElem?_eq_none hl] at g1
      have hkz : k ≠ z := fun e => by
        subst e
        obtain ⟨oz, hoz, e, he, hb, heq⟩ := waitsB_spec hz
        rw [hok] at hoz
        obtain rfl : ok = oz := by simpa using hoz
        exact none_on e he hb heq
      have g2 := wpOp_putIf hok (hfree k ok hok hki hun none_on) (fun cs b => hsel i oi cs b hi) (fun cs b => hsel k ok cs b hok) hQ hy (H.2 k (ready_mono hk hki))
      refine wpOp_mono (fun x' u' g3 => ⟨fun _ => g3.2.1 hkz, ih (done.setIfInBounds k true) x' u' ?_ (ready_mono hr (Ne.symm hki)) g3.1 (g3.2.1 hkz) ?_⟩) g2
      · intro m om hm hmi hund hno
        refine hfree m om hm hmi ?_ hno
        rcases Nat.decEq k m with hne | rfl
        · rwa [getD_set_ne true hne] at hund
        · exact hun
      · rw [Array.setIfInBounds_comm _ _ hki]
        exact g3.2.2
    · exact hy.wpOp hi hS ⟨fun _ => hS, H⟩
/-- Number 'i', which reads, is taken first. -/
theorem till_take {i : Nat} {oi : Oper} {v : Value} {n : Nat} {done : Array Bool} {x : Act} {u : World} (hi : ops[i]? = some oi) (hs : Region.noSelect ops = true) (hf : Region.free md ops done i = true) (hr : (Region.ready md ops done).contains i = true) (hz : waitsB md ops i z = true) (hiz : (i == z) = false)
    (hQ : ∀ c a w, Q (.panic c) (a.put oi.dst v) w → Q (.panic c) a w) (hy : YieldsIf P ops S oi v x) (hS : S u) (h : wpTill P md ops Q S z n (done.setIfInBounds i true) (x.put oi.dst v) u) : wpTill P md ops Q S z (n + 1) done x u :=
  wpTill_front hi (Region.noSelect_spec hs) hQ hz (by simpa using hiz) n done x u (Region.free_spec hi hf) (by simpa using hr) hy hS h
/-- What is to be shown of each operation that may come up. -/
def TillAll (P : Program) (md : Region.Mode) (ops : Array Oper) (Q : Exit → Act → World → Prop) (S : World → Prop) (z n : Nat) (done : Array Bool) (x : Act) (u : World) (rs : List Nat) : Prop :=
  ∀ k ∈ rs, wpOp P ops Q k (fun x' u' => (k ≠ z → S u') ∧ wpTill P md ops Q S z n (done.setIfInBounds k true) x' u') x u
theorem TillAll.nil {n : Nat} {done : Array Bool} {x : Act} {u : World} : TillAll P md ops Q S z n done x u [] := fun _ h => by cases h
theorem TillAll.cons {n i : Nat} {done : Array Bool} {x : Act} {u : World} {o : Oper} {rs : List Nat} (ho : ops[i]? = some o) (hiz : (i == z) = false)
    (h : ∀ K : Act → World → Prop, Shut (∀ a w, S w → (S w → wpTill P md ops Q S z n (done.setIfInBounds i true) a w) → K a w) → if Region.wanted o (yielded ops x.tmps) = true then Oper.wp P o x u K Q else K (x.put o.dst undef) u) (hs : TillAll P md ops Q S z n done x u rs) : TillAll P md ops Q S z n done x u (i :: rs) := fun k hk => by
  rcases List.mem_cons.1 hk with rfl | hk
  · exact wpOp_step ho fun K hK => h K fun a w hS hW => hK a w ⟨fun _ => hS, hW hS⟩
  · exact hs k hk
theorem till_ready {rs : List Nat} {n : Nat} {done : Array Bool} {x : Act} {u : World} (hr : Region.ready md ops done = rs) (hne : rs ≠ []) (h : TillAll P md ops Q S z n done x u rs) : wpTill P md ops Q S z (n + 1) done x u :=
  ⟨fun h0 => absurd (hr ▸ h0) hne, hr ▸ h⟩
/-- The last one. -/
theorem till_last {n : Nat} {done : Array Bool} {x : Act} {u : World} {o : Oper} (hr : Region.ready md ops done = [z]) (he : Region.ready md ops (done.setIfInBounds z true) = []) (ho : ops[z]? = some o)
    (h : ∀ K : Act → World → Prop, Shut (∀ a w, Q .normal a w → K a w) → if Region.wanted o (yielded ops x.tmps) = true then Oper.wp P o x u K Q else K (x.put o.dst undef) u) : wpTill P md ops Q S z (n + 1) done x u := by
  refine ⟨fun h0 => (by rw [hr] at h0; cases h0), fun k hk => ?_⟩
  rw [hr] at hk
  obtain rfl : k = z := by simpa using hk
  refine wpOp_step ho fun K hK => h K fun a w hq => hK a w ⟨fun hn => absurd rfl hn, ?_⟩
  cases n with
  | zero => exact ⟨he, hq⟩
  | succ n => exact ⟨fun _ => hq, by rw [he]; simp⟩
/-- The beginning. -/
theorem region_till {id : Nat} {a : Act} {w : World} (z : Nat) (S : World → Prop) (hm : P.follows .mixedOrders = true) (hS : S w.drew) (h : S w.drew → wpTill P .any ops Q S z ops.size (Array.replicate ops.size false) a w.drew) : (Code.region id ops true).wp P Q a w :=
  wp_region_any hm (wpAny_till _ _ _ _ (h hS))
end
end Go.Proofs.Ytbbadpidolfleaa
