/- A region that draws its order, and stores into cells that it reads: a load may be taken first, where the region's first store waits for it: 'wpAnyU', in which a condition S on the world is held until that store (number st) has come up. -/
import Derived.Test.YtgngpmgjoifepaaGreatDoorPt0
import Derived.Deep.RegionHeld
namespace Go.Proofs.YtgngpmgjoifepaaGreatDoor
open Go.RowKit

section
variable {P : Program} {ops : Array Oper} {Q : Exit → Act → World → Prop} {md : Region.Mode} {S : World → Prop} {st : Nat}

def wpAnyU (P : Program) (md : Region.Mode) (ops : Array Oper) (Q : Exit → Act → World → Prop) (S : World → Prop) (st : Nat) : Nat → Array Bool → Act → World → Prop
  | 0, l, a, w => Region.ready md ops l = [] ∧ Q .normal a w
  | n + 1, l, a, w => (Region.ready md ops l = [] → Q .normal a w) ∧ ∀ i ∈ Region.ready md ops l, wpOp P ops Q i (fun a' w' => ((l.setIfInBounds i true).getD st true = false → S w') ∧ wpAnyU P md ops Q S st n (l.setIfInBounds i true) a' w') a w
theorem wpAny_of_U : ∀ (n : Nat) (l : Array Bool) (a : Act) (w : World), wpAnyU P md ops Q S st n l a w → wpAny P md ops Q n l a w
  | 0, _, _, _, h => h
  | n + 1, _, _, _, h => ⟨h.1, fun i hi => wpOp_mono (fun a' w' h' => wpAny_of_U n _ a' w' h'.2) (h.2 i hi)⟩
theorem wpAnyU_first {S' : World → Prop} {i : Nat} {oi : Oper} {v : Value} (hi : ops[i]? = some oi) (hsel : ∀ (j : Nat) (o : Oper) cs b, ops[j]? = some o → o.op ≠ .select cs b)
    (hQ : ∀ c a w, Q (.panic c) (a.put oi.dst v) w → Q (.panic c) a w) (hne : st ≠ i)
    (hS' : (∀ w, S' w) ∨ ((∀ w, S w → S' w) ∧ ∀ l : Array Bool, i ∈ Region.ready md ops l → l.getD st true = false → st ∉ Region.ready md ops l)) :
    ∀ (n : Nat) (l : Array Bool) (a : Act) (w : World),
      (∀ j oj, ops[j]? = some oj → j ≠ i → l.getD j true = false → (∀ e ∈ oj.after, Region.binds md e = true → e.on ≠ i) → oi.apart ops oj = true) →
      i ∈ Region.ready md ops l → YieldsIf P ops S' oi v a → ((∀ w, S' w) ∨ l.getD st true = false) → (l.getD st true = false → S w) →
      wpAnyU P md ops Q S st n (l.setIfInBounds i true) (a.put oi.dst v) w → wpAnyU P md ops Q S st (n + 1) l a w := by
  have key : ∀ (l : Array Bool) (w : World), ((∀ w, S' w) ∨ l.getD st true = false) → (l.getD st true = false → S w) → S' w := fun l w h1 h2 => by
    rcases h1 with h1 | h1
    { exact h1 w }
    {
    rcases hS' with h | ⟨h, _⟩
    { exact h w }
    { exact h w (h2 h1) }
    }
  intro n
  induction n with
  | zero =>
    intro l a w _ hr hy h1 hS H
    refine ⟨fun h => (by rw [h] at hr; cases hr), fun j hj => ?_⟩
    by_cases hji : j = i
    {
    subst hji
    exact hy.wpOp hi (key l w h1 hS) ⟨fun h => hS (by rwa [getD_set_ne true (Ne.symm hne)] at h), H⟩
    }
    {
    have := ready_mono hj hji
    rw [H.1] at this
    cases this
    }
  | succ n ih =>
    intro l a w hfree hr hy h1 hS H
    refine ⟨fun h => (by rw [h] at hr; cases hr), fun j hj => ?_⟩
    by_cases hji : j = i
    {
    subst hji
    exact hy.wpOp hi (key l w h1 hS) ⟨fun h => hS (by rwa [getD_set_ne true (Ne.symm hne)] at h), H⟩
    }
    {
    have g1 := H.2 j (ready_mono hj hji)
    obtain ⟨hjun, oj, hoj, hall⟩ := mem_ready.1 hj
    have hnot : ∀ e ∈ oj.after, Region.binds md e = true → e.on ≠ i := fun e he hb heq => by
      have q1 := hall e he hb
      have q0 := (mem_ready.1 hr).1
      rw [heq] at q1
      rcases Nat.lt_or_ge i l.size with h' | h'
      { simp [h'] at q0 q1; rw [q0] at q1; cases q1 }
      { simp [Array.getElem?_eq_none h'] at q1 }
    have g2 := wpOp_putIf hoj (hfree j oj hoj hji hjun hnot) (fun cs b => hsel i oi cs b hi) (fun cs b => hsel j oj cs b hoj) hQ hy g1
    have hfree' : ∀ k ok, ops[k]? = some ok → k ≠ i → (l.setIfInBounds j true).getD k true = false →
        (∀ e ∈ ok.after, Region.binds md e = true → e.on ≠ i) → oi.apart ops ok = true := fun k ok hk hki hun hno => by
      refine hfree k ok hk hki ?_ hno
      by_cases hjk : j = k
      { subst hjk; exact hjun }
      { rw [getD_set_ne true hjk] at hun; exact hun }
    have same : ((l.setIfInBounds i true).setIfInBounds j true).getD st true = (l.setIfInBounds j true).getD st true := by
      rw [Array.setIfInBounds_comm _ _ (Ne.symm hji), getD_set_ne true (Ne.symm hne)]
    have h1' : (∀ w, S' w) ∨ (l.setIfInBounds j true).getD st true = false := by
      rcases h1 with h1 | h1
      { exact .inl h1 }
      {
      rcases hS' with h | ⟨_, h⟩
      { exact .inl h }
      {
      right
      have hjs : j ≠ st := fun e => h l hr h1 (e ▸ hj)
      rw [getD_set_ne true hjs]
      exact h1
      }
      }
    refine wpOp_mono (fun a' w' h3 => ⟨fun hl => h3.2.1 (same ▸ hl), ih (l.setIfInBounds j true) a' w' hfree' (ready_mono hr (Ne.symm hji)) h3.1 h1' (fun hl => h3.2.1 (same ▸ hl)) ?_⟩) g2
    rw [Array.setIfInBounds_comm _ _ hji]
    exact h3.2.2

    }
theorem U_pure {i : Nat} {oi : Oper} {v : Value} {n : Nat} {l : Array Bool} {a : Act} {w : World} (hi : ops[i]? = some oi)
    (hs : (Region.noSelect ops && (Region.free md ops l i && ((Region.ready md ops l).contains i && decide (st ≠ i)))) = true)
    (hQ : ∀ c a w, Q (.panic c) (a.put oi.dst v) w → Q (.panic c) a w) (hy : YieldsIf P ops (fun _ => True) oi v a) (hS : l.getD st true = false → S w)
    (h : wpAnyU P md ops Q S st n (l.setIfInBounds i true) (a.put oi.dst v) w) : wpAnyU P md ops Q S st (n + 1) l a w := by
  simp only [Bool.and_eq_true, decide_eq_true_eq] at hs
  exact wpAnyU_first (S' := fun _ => True) hi (Region.noSelect_spec hs.1) hQ hs.2.2.2 (.inl fun _ => trivial) n l a w (Region.free_spec hi hs.2.1) (by simpa using hs.2.2.1) hy (.inl fun _ => trivial) hS h
theorem U_load {i : Nat} {oi os : Oper} {v : Value} {n : Nat} {l : Array Bool} {a : Act} {w : World} (hi : ops[i]? = some oi) (ho : ops[st]? = some os)
    (hs : (Region.noSelect ops && (Region.free md ops l i && ((Region.ready md ops l).contains i && (decide (st ≠ i) && (!l.getD st true && os.after.any fun e => Region.binds md e && e.on == i))))) = true)
    (hQ : ∀ c a w, Q (.panic c) (a.put oi.dst v) w → Q (.panic c) a w) (hy : YieldsIf P ops S oi v a) (hS : l.getD st true = false → S w)
    (h : wpAnyU P md ops Q S st n (l.setIfInBounds i true) (a.put oi.dst v) w) : wpAnyU P md ops Q S st (n + 1) l a w := by
  simp only [Bool.and_eq_true, decide_eq_true_eq, Bool.not_eq_true'] at hs
  obtain ⟨s1, s2, s3, s4, s5, s6⟩ := hs
  obtain ⟨e, he, hb⟩ := List.any_eq_true.1 (by simpa using s6 : (os.after.toList.any fun e => Region.binds md e && e.on == i) = true)
  simp only [Bool.and_eq_true, beq_iff_eq] at hb
  refine wpAnyU_first (S' := S) hi (Region.noSelect_spec s1) hQ s4 (.inr ⟨fun _ h => h, fun l' hr' _ hst => ?_⟩) n l a w (Region.free_spec hi s2) (by simpa using s3) hy (.inr s5) hS h
  obtain ⟨_, o', ho', hall⟩ := mem_ready.1 hst
  rw [ho] at ho'
  cases ho'
  have q1 := hall e (by simpa using he) hb.1
  have q0 := (mem_ready.1 hr').1
  rw [hb.2] at q1
  rcases Nat.lt_or_ge i l'.size with h' | h'
  { simp [h'] at q0 q1; rw [q0] at q1; cases q1 }
  { simp [Array.getElem?_eq_none h'] at q1 }
def AllU (P : Program) (md : Region.Mode) (ops : Array Oper) (Q : Exit → Act → World → Prop) (S : World → Prop) (st : Nat) (n : Nat) (l : Array Bool) (a : Act) (w : World) (rs : List Nat) : Prop :=
  ∀ i ∈ rs, wpOp P ops Q i (fun a' w' => ((l.setIfInBounds i true).getD st true = false → S w') ∧ wpAnyU P md ops Q S st n (l.setIfInBounds i true) a' w') a w
theorem U_nil {n : Nat} {l : Array Bool} {a : Act} {w : World} : AllU P md ops Q S st n l a w [] := fun _ h => by cases h
theorem U_cons {n : Nat} {l : Array Bool} {a : Act} {w : World} {i : Nat} {o : Oper} {rs : List Nat} (ho : ops[i]? = some o)
    (h : ∀ K' : Act → World → Prop, Shut (∀ a w, ((l.setIfInBounds i true).getD st true = false → S w) → (((l.setIfInBounds i true).getD st true = false → S w) → wpAnyU P md ops Q S st n (l.setIfInBounds i true) a w) → K' a w) → if Region.wanted o (yielded ops a.tmps) = true then Oper.wp P o a w K' Q else K' (a.put o.dst undef) w)
    (hs : AllU P md ops Q S st n l a w rs) : AllU P md ops Q S st n l a w (i :: rs) := fun j hj => by
  rcases List.mem_cons.1 hj with rfl | hj
  { exact wpOp_step ho (fun K' hK => h K' (fun a w hS hW => hK a w ⟨hS, hW hS⟩)) }
  { exact hs j hj }
theorem U_ready {rs : List Nat} {n : Nat} {l : Array Bool} {a : Act} {w : World} (hr : Region.ready md ops l = rs) (hne : rs ≠ []) (h : AllU P md ops Q S st n l a w rs) : wpAnyU P md ops Q S st (n + 1) l a w :=
  ⟨fun h0 => absurd (hr ▸ h0) hne, hr ▸ h⟩
theorem U_done {l : Array Bool} {a : Act} {w : World} (hr : Region.ready md ops l = []) (h : Q .normal a w) : ∀ n, wpAnyU P md ops Q S st n l a w
  | 0 => ⟨hr, h⟩
  | _ + 1 => ⟨fun _ => h, by rw [hr]; simp⟩
theorem U_begin {id : Nat} {a : Act} {w : World} (st : Nat) (S : World → Prop) (hm : P.follows .mixedOrders = true) (hS : S w.drew)
    (h : ((Array.replicate ops.size false).getD st true = false → S w.drew) → wpAnyU P .any ops Q S st ops.size (Array.replicate ops.size false) a w.drew) : (Code.region id ops true).wp P Q a w :=
  wp_region_any hm (wpAny_of_U _ _ _ _ (h fun _ => hS))
end

end Go.Proofs.YtgngpmgjoifepaaGreatDoor
