/- Steps where a read may come behind the first store. -/
import Derived.Test.YtghnigmmkenddaaRk
namespace Go.Proofs.Ytghnigmmkenddaa.Ar
open Go.ChangeShapes Go.WideShapes Go.ChangeAt Go.RowKit

set_option linter.unusedVariables false
set_option linter.unusedSimpArgs false

end Go.Proofs.Ytghnigmmkenddaa.Ar
namespace Go.Proofs.Ytghnigmmkenddaa.Rk
section
variable {P : Program} {ops : Array Oper} {Q : Exit → Act → World → Prop} {md : Region.Mode} {S : World → Prop} {K : Nat}
/-- One of two comes up, the second of them the tail's first. -/
theorem twoK {i j : Nat} {o o' : Oper} {fuel : Nat} {listed : Array Bool} {a : Act} {w : World} (hj : (j == K) = true) (hr : Region.ready md ops listed = [i, j]) (ho : ops.toList[i]? = some o) (ho' : ops.toList[j]? = some o')
    (h : ∀ K' : Act → World → Prop, Shut (∀ a w, S w → (S w → wpK P md ops Q S K fuel (listed.setIfInBounds i true) a w) → K' a w) → if Region.wanted o (yielded ops a.tmps) = true then Oper.wp P o a w K' Q else K' (a.put o.dst undef) w)
    (h' : ∀ K' : Act → World → Prop, Shut (∀ a w, wpK P md ops Q S K fuel (listed.setIfInBounds j true) a w → K' a w) → if Region.wanted o' (yielded ops a.tmps) = true then Oper.wp P o' a w K' Q else K' (a.put o'.dst undef) w) :
    wpK P md ops Q S K (fuel + 1) listed a w := by
  have ho1 : ops[i]? = some o := by rw [← Array.getElem?_toList]; exact ho
  have ho2 : ops[j]? = some o' := by rw [← Array.getElem?_toList]; exact ho'
  have hjk : j = K := by simpa using hj
  refine ⟨fun h0 => (by rw [hr] at h0; cases h0), fun k hk => ?_⟩
  rw [hr, List.mem_cons, List.mem_singleton] at hk
  rcases hk with rfl | rfl
  · exact wpOp_step ho1 (fun K' hK => h K' (fun a w hS hW => hK a w ⟨fun _ => hS, hW hS⟩))
  · refine wpOp_step ho2 (fun K' hK => h' K' (fun a w hW => hK a w ⟨fun hu => ?_, hW⟩))
    exfalso
    unfold Un at hu
    rw [← hjk, set_self] at hu
    cases hu
/-- What is left behind the tail's first operation. -/
theorem more (l : List Nat) (os : List Oper) {fuel : Nat} {listed : Array Bool} {a : Act} {w : World} (hu : listed.getD K true = true) (hf : forced md ops listed l = true) (hm : l.map (fun i => ops.toList[i]?) = os.map some) (hl : l.length ≤ fuel)
    (h : wpList P ops Q os a w) : wpK P md ops Q S K fuel listed a w :=
  rest l os fuel listed a w (fun i _ => not_un i (by unfold Un; rw [hu]; decide)) hf hm hl h
end
end Go.Proofs.Ytghnigmmkenddaa.Rk
namespace Go.Proofs.Ytghnigmmkenddaa.Ar
end Go.Proofs.Ytghnigmmkenddaa.Ar
