/- The groups partition the devices: plain mathematics. -/
import Derived.Test.YtjpcpdaokgkaoaaM17
namespace Go.Proofs.Ytjpcpdaokgkaoaa.Sh
open Go.ChangeShapes Go.WideShapes Go.ChangeAt Go.RowKit
set_option linter.unusedVariables false

/-- The groups along an axis, without the tests of validity. -/
def gsw (zs : List Int) (ax : Nat) : List (List Int) := ((List.range (sp zs).toNat).filter fun (e : Nat) => decide (0 < (gw zs ax (e : Int)).length) && (gw zs ax (e : Int)).getD 0 0 == (e : Int)).map fun (e : Nat) => gw zs ax (e : Int)
theorem gL_gw {zs : List Int} {ax : Nat} {d : Int} (h : mok zs = true) (ha : ax < zs.length) (h0 : 0 ≤ d) (h1 : d < sp zs) : gL zs (ax : Int) d = gw zs ax d := by
  unfold gL
  rw [if_pos ⟨(c_pt h h0 h1).1, by omega, by omega⟩, Int.toNat_natCast, gm_gw h]
theorem gs_gsw {zs : List Int} {ax : Nat} (h : mok zs = true) (ha : ax < zs.length) : gs zs (ax : Int) (sp zs).toNat = gsw zs ax := by
  unfold gs gsw
  have e : ∀ e ∈ List.range (sp zs).toNat, gL zs (ax : Int) (e : Int) = gw zs ax (e : Int) := fun e he => gL_gw h ha (by omega) (by have := List.mem_range.1 he; omega)
  rw [List.filter_congr (q := fun (e : Nat) => decide (0 < (gw zs ax (e : Int)).length) && (gw zs ax (e : Int)).getD 0 0 == (e : Int)) (fun x hx => by rw [e x hx])]
  exact List.map_congr_left fun x hx => e x (List.mem_filter.1 hx).1
def okl (zs : List Int) (ax : Nat) (l : List Int) : Bool := l.length == (zs.getD ax 0).toNat && (List.range l.length).all fun k => decide (0 ≤ l.getD k 0) && (decide (l.getD k 0 < sp zs) && ((pt zs (l.getD k 0)).getD ax 0 == (k : Int) && gw zs ax (l.getD k 0) == l))
def okg (zs : List Int) (ax : Nat) (gl : List (List Int)) : Bool := gl.all (okl zs ax) && (List.range (sp zs).toNat).all fun (e : Nat) => gl.flatten.count (e : Int) == 1
def mc3 (zs : List Int) : Bool := !mok zs || (List.range zs.length).all fun ax => okg zs ax (gsw zs ax)
theorem mc3_all : ms.all mc3 = true := by decide +kernel
theorem mc3_of {zs : List Int} {ax : Nat} (h : mok zs = true) (ha : ax < zs.length) : okg zs ax (gsw zs ax) = true := by
  have hc := List.all_eq_true.1 mc3_all zs (ms_mem h)
  unfold mc3 at hc
  rw [h, Bool.not_true, Bool.false_or] at hc
  exact List.all_eq_true.1 hc ax (List.mem_range.2 ha)
theorem okl_of {zs : List Int} {ax i : Nat} (h : mok zs = true) (ha : ax < zs.length) (hi : i < (gsw zs ax).length) :
    ((gsw zs ax).getD i []).length = (zs.getD ax 0).toNat ∧ ∀ k, k < ((gsw zs ax).getD i []).length → ∃ e : Nat, ((gsw zs ax).getD i []).getD k 0 = (e : Int) ∧ (e : Int) < sp zs ∧ (pt zs (e : Int)).getD ax 0 = (k : Int) ∧ gw zs ax (e : Int) = (gsw zs ax).getD i [] := by
  have hc := mc3_of h ha
  unfold okg at hc
  rw [Bool.and_eq_true] at hc
  have h1 := List.all_eq_true.1 hc.1 ((gsw zs ax).getD i []) (by
    rw [List.getD, List.getElem?_eq_getElem hi]
    exact List.getElem_mem hi)
  unfold okl at h1
  rw [Bool.and_eq_true] at h1
  refine ⟨beq_iff_eq.1 h1.1, fun k hk => ?_⟩
  have h2 := List.all_eq_true.1 h1.2 k (List.mem_range.2 hk)
  simp only [Bool.and_eq_true, decide_eq_true_eq, beq_iff_eq] at h2
  refine ⟨(((gsw zs ax).getD i []).getD k 0).toNat, by omega, by omega, ?_, ?_⟩
  · rw [Int.toNat_of_nonneg h2.1]; exact h2.2.2.1
  · rw [Int.toNat_of_nonneg h2.1]; exact h2.2.2.2
/-- How often each device was met. -/
def cn (gl : List (List Int)) (D i k : Nat) : List Int := (List.range D).map fun (e : Nat) => (((gl.take i).flatten ++ (gl.getD i []).take k).count (e : Int) : Int)
theorem cn_length (gl : List (List Int)) (D i k : Nat) : (cn gl D i k).length = D := by simp [cn]
theorem cn_get {gl : List (List Int)} {D i k e : Nat} (h : e < D) : (cn gl D i k).getD e 0 = (((gl.take i).flatten ++ (gl.getD i []).take k).count (e : Int) : Int) := by
  rw [getD_at (by rw [cn_length]; exact h)]
  simp [cn]
theorem cn_zero (gl : List (List Int)) (D : Nat) : cn gl D 0 0 = List.replicate D (0 : Int) := by
  refine List.ext_getElem (by simp [cn]) fun j h1 h2 => ?_
  simp [cn]
theorem cn_step {gl : List (List Int)} {D i k e : Nat} (hk : k < (gl.getD i []).length) (he : (gl.getD i []).getD k 0 = (e : Int)) (h : e < D) : (cn gl D i k).set e ((cn gl D i k).getD e 0 + 1) = cn gl D i (k + 1) := by
  refine List.ext_getElem (by simp [cn]) fun j h1 h2 => ?_
  have hj : j < D := by rw [cn_length] at h2; exact h2
  rw [← getD_at h2, cn_get hj, List.take_succ_eq_append_getElem hk, ← getD_at hk, he, ← List.append_assoc, List.count_append]
  by_cases hje : j = e
  · subst hje
    rw [List.getElem_set_self, cn_get h]
    simp
  · rw [List.getElem_set_ne (by omega), ← getD_at (by rw [cn_length]; exact hj), cn_get hj]
    have : List.count (j : Int) [(e : Int)] = 0 := List.count_eq_zero.2 (by simp; omega)
    rw [this]
    rfl
theorem cn_next {gl : List (List Int)} {D i k : Nat} (hi : i < gl.length) (hk : k = (gl.getD i []).length) : cn gl D i k = cn gl D (i + 1) 0 := by
  unfold cn
  congr 1
  funext e
  have e1 : (gl.getD i []).take k = gl.getD i [] := List.take_of_length_le (by omega)
  have e2 : gl.getD i [] = gl[i] := by rw [List.getD, List.getElem?_eq_getElem hi]; rfl
  rw [e1, e2, List.take_succ_eq_append_getElem hi, List.flatten_append, List.take_zero, List.append_nil]
  simp
theorem cn_end {zs : List Int} {ax i e : Nat} (h : mok zs = true) (ha : ax < zs.length) (hi : i = (gsw zs ax).length) (he : (e : Int) < sp zs) : (cn (gsw zs ax) (sp zs).toNat i 0).getD e 0 = 1 := by
  rw [cn_get (by omega), List.take_of_length_le (by omega), List.take_zero, List.append_nil]
  have hc := mc3_of h ha
  unfold okg at hc
  rw [Bool.and_eq_true] at hc
  have := beq_iff_eq.1 (List.all_eq_true.1 hc.2 e (List.mem_range.2 (by omega)))
  rw [this]
  rfl
end Go.Proofs.Ytjpcpdaokgkaoaa.Sh
