/- The two groups are the same. -/
import Derived.Test.YtjpcpdaokgkaoaaM8
namespace Go.Proofs.Ytjpcpdaokgkaoaa.Sh
open Go.ChangeShapes Go.WideShapes Go.ChangeAt Go.RowKit
set_option linter.unusedVariables false

/-- A group, without the tests of validity. -/
def gw (zs : List Int) (ax : Nat) (d : Int) : List Int := (List.range (zs.getD ax 0).toNat).map fun (c : Nat) => (of 0 zs ((pt zs d).set ax (c : Int))).getD 0
theorem gm_gw {zs : List Int} {ax : Nat} {d : Int} (h : mok zs = true) : gm zs ax d = gw zs ax d := by
  unfold gm gw
  congr 1
  funext c
  rw [dA_parts ⟨h, by simp [pt_length]⟩]
/-- Every valid mesh is in this list. -/
def ms : List (List Int) :=
  ((List.range 17).map fun (a : Nat) => [(a : Int)]) ++ ((List.range 17).flatMap fun (a : Nat) => (List.range 17).map fun (b : Nat) => [(a : Int), (b : Int)]) ++ ((List.range 17).flatMap fun (a : Nat) => (List.range 17).flatMap fun (b : Nat) => (List.range 17).map fun (c : Nat) => [(a : Int), (b : Int), (c : Int)])
theorem ms_nat {z : Int} (h : 1 ≤ z ∧ z ≤ 16) : ∃ a : Nat, a < 17 ∧ (a : Int) = z := ⟨z.toNat, by omega, by omega⟩
theorem ms_mem {zs : List Int} (h : mok zs = true) : zs ∈ ms := by
  obtain ⟨h1, h3, _⟩ := mok_facts h
  have E : ∀ k, k < zs.length → ∃ a : Nat, a < 17 ∧ (a : Int) = zs.getD k 0 := fun k hk => ms_nat (mok_el h hk)
  unfold ms
  rw [List.mem_append, List.mem_append]
  match zs, h1, h3, E with
  | [x], _, _, E =>
    obtain ⟨a, ha, e⟩ := E 0 (by simp)
    exact .inl (.inl (List.mem_map.2 ⟨a, List.mem_range.2 ha, by rw [e]; rfl⟩))
  | [x, y], _, _, E =>
    obtain ⟨a, ha, e⟩ := E 0 (by simp)
    obtain ⟨b, hb, f⟩ := E 1 (by simp)
    exact .inl (.inr (List.mem_flatMap.2 ⟨a, List.mem_range.2 ha, List.mem_map.2 ⟨b, List.mem_range.2 hb, by rw [e, f]; rfl⟩⟩))
  | [x, y, z], _, _, E =>
    obtain ⟨a, ha, e⟩ := E 0 (by simp)
    obtain ⟨b, hb, f⟩ := E 1 (by simp)
    obtain ⟨c, hc, g⟩ := E 2 (by simp)
    exact .inr (List.mem_flatMap.2 ⟨a, List.mem_range.2 ha, List.mem_flatMap.2 ⟨b, List.mem_range.2 hb, List.mem_map.2 ⟨c, List.mem_range.2 hc, by rw [e, f, g]; rfl⟩⟩⟩)
def mc (zs : List Int) : Bool := !mok zs || (List.range zs.length).all fun ax => (List.range (sp zs).toNat).all fun d => gr zs ax (d : Int) (sp zs).toNat == gw zs ax (d : Int)
theorem mc_all : ms.all mc = true := by decide +kernel
theorem gr_gm {zs : List Int} {ax : Nat} {d : Int} (h : mok zs = true) (ha : ax < zs.length) (h0 : 0 ≤ d) (h1 : d < sp zs) : gr zs ax d (sp zs).toNat = gm zs ax d := by
  have hc := List.all_eq_true.1 mc_all zs (ms_mem h)
  unfold mc at hc
  rw [h, Bool.not_true, Bool.false_or] at hc
  have := List.all_eq_true.1 (List.all_eq_true.1 hc ax (List.mem_range.2 ha)) d.toNat (List.mem_range.2 (by omega))
  rw [gm_gw h]
  have e := beq_iff_eq.1 this
  rw [Int.toNat_of_nonneg h0] at e
  exact e
theorem c42 (p : Option Addr) (zs : List Int) (c : Nat) (ax d : Int) (w : World) (hn : zs.length ≤ maxLen) (RA : Hid (SlI w p zs)) :
    Calls Try.prog 42 #[.agg #[.slice p zs.length c], .int .i64 ax, .int .i64 d] w (OW (gL zs ax d) w) := by
  unfold gL
  by_cases h : cB zs d = true ∧ 0 ≤ ax ∧ ax < zs.length
  · rw [if_pos h]
    obtain ⟨hm, a1, a2⟩ := cB_valid h.1
    have := c42_ok p zs c ax.toNat d w RA h.1 (by omega)
    rw [Int.toNat_of_nonneg h.2.1, gr_gm hm (by omega) a1 a2] at this
    exact this
  · rw [if_neg h]
    exact c42_bad p zs c ax d w hn RA h
end Go.Proofs.Ytjpcpdaokgkaoaa.Sh
