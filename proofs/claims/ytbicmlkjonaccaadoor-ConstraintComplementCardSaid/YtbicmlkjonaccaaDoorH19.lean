/- Forms of the examples: two variables. -/
import Derived.Test.YtbicmlkjonaccaaDoorH18
import Derived.Test.YtbicmlkjonaccaaDoorH1
import Derived.Lib.ItoaNum
import Derived.Lib.SmallJoins
import Derived.Lib.AppendIntMem
import Derived.IntWalk
import Derived.Lib.LaidTab
import Derived.Lib.Builder
import Derived.Lib.AppendStr
import Derived.Lib.UnsafeStr
import Derived.Laws.Externs
import Derived.Lib.OthersKept
import Derived.Lib.OwnKind

namespace Go.Proofs.YtbicmlkjonaccaaDoor.Ln
open Go.ChangeShapes Go.WideShapes Go.ChangeAt Go.RowKit
open Go.Proofs.YtbicmlkjonaccaaDoor.Nm
set_option linter.unusedVariables false
set_option linter.unusedSimpArgs false
set_option maxRecDepth 8000

set_option maxRecDepth 100000 in
set_option maxHeartbeats 4000000 in
theorem form2 (k a b : Int) (w : World) (ga : (a != 0) = true) (ga' : (a == 0) = false) (gb : (b != 0) = true) (gb2 : (b == 0) = false) : Calls Tryd.prog 53 #[.int .i64 k, .int .i64 a, .int .i64 b] w (LF k [mI a, mJ b] w) := by
  obtain ⟨i0, hi, hz0, hz1, hz2⟩ := info_parts infoMo
  have F0 : Cl [(w.heap.size + 1, 1, .slice none 0 0), (w.heap.size + 1, 0, .int .i64 k), (w.heap.size, 0, .int .i64 0), (w.heap.size, 1, .slice none 0 0)] ((w.alloc (Obj.cells #[Value.int .i64 0, Value.slice none 0 0] 24)).alloc (Obj.cells #[Value.int .i64 k, Value.slice none 0 0] 24)) := Cl.cons (by go_cell) (by first | go_cell | simp) (Cl.cons (by go_cell) (by first | go_cell | simp) (Cl.cons (by go_cell) (by first | go_cell | simp) (Cl.cons (by go_cell) (by first | go_cell | simp) (Cl.nil _))))
  have K0 : Below w.heap.size w ((w.alloc (Obj.cells #[Value.int .i64 0, Value.slice none 0 0] 24)).alloc (Obj.cells #[Value.int .i64 k, Value.slice none 0 0] 24)) := ((Below.refl _ _).alloc (Nat.le_refl _) _).alloc (by simp) _
  have hs0 : ((w.alloc (Obj.cells #[Value.int .i64 0, Value.slice none 0 0] 24)).alloc (Obj.cells #[Value.int .i64 k, Value.slice none 0 0] 24)).heap.size = w.heap.size + 2 := by simp
  go_enter Tryd.func53, Tryd.ntmps53
  go_wp2_with (at_builtin; refine wpList_append_own _ rfl _ _ 22 rfl (w.heap.size + 2) 59 i0 (.agg #[.string ⟨#[]⟩, .int .i64 0]) 2 24 Tryd.underlying22 hi hz0 hz1 hz2 rfl (by decide) _ _ _ rfl (World.ownsRow_nil _ _ _ _) ⟨w.heap.size + 1 + 1, 0, none⟩ 1 1 [.string ⟨#[105]⟩, .int .i64 a] rfl rfl ?_ ?_ ?_ ?_ ?_ ?_)
  · intro q x hx
    rcases q with _ | _ | q
    · cases hx; go_cell
    · cases hx; go_cell
    · simp at hx
  · intro x hx
    simp at hx
    rcases hx with rfl | rfl <;> rfl
  · unfold maxLen; omega
  · omega
  · simp
  intro v1 w1 hown1 hg1 _
  have F1 := (F0.below ((Below.refl _ _).alloc (Nat.le_refl _) (Obj.cells #[Value.string ⟨#[105]⟩, Value.int .i64 a] 59))).grown hg1 (fun x hx => by simp [Value.ownBlock])
  have K1 := (K0.alloc K0.size (Obj.cells #[Value.string ⟨#[105]⟩, Value.int .i64 a] 59)).grown hg1 (K0.alloc K0.size _).size (fun q hq => by simp [Value.ownBlock] at hq)
  have O1 : w1.ownsRow (w.heap.size + 2) 59 2 v1 1 (moCs [mI a]) := hown1
  obtain ⟨q1, d1, rfl⟩ := own_slice O1
  have e0 := F1.head
  have ze0 := F1.headF
  have e1 := F1.tail.head
  have e2 := F1.tail.tail.head
  have ze2 := F1.tail.tail.headF
  have e3 := F1.tail.tail.tail.head
  have ze3 := F1.tail.tail.tail.headF
  have l1 : w.heap.size + 1 < w1.heap.size := World.block_lt_of_cell? _ _ e0
  have O1b := own_set (a := ⟨w.heap.size + 1, 1, none⟩) (y := .slice q1 1 d1) O1 (by dsimp only; omega)
  have G1 : Cl [(w.heap.size + 1, 1, .slice q1 1 d1), (w.heap.size + 1, 0, .int .i64 k), (w.heap.size, 0, .int .i64 0), (w.heap.size, 1, .slice none 0 0)] (w1.setCell ⟨w.heap.size + 1, 1, none⟩ (.slice q1 1 d1)) := Cl.cons (by go_cell) (by simp [World.frozen?_setCell, ze0]) (Cl.cons (by go_cell) (by simp [World.frozen?_setCell, F1.tail.headF]) (Cl.cons (by go_cell) (by simp [World.frozen?_setCell, ze2]) (Cl.cons (by go_cell) (by simp [World.frozen?_setCell, ze3]) (Cl.nil _))))
  have KW1 : Below w.heap.size w (w1.setCell ⟨w.heap.size + 1, 1, none⟩ (.slice q1 1 d1)) := K1.setCell (p := ⟨w.heap.size + 1, 1, none⟩) (by dsimp only; omega) _
  clear hown1 hg1 F0 K0 F1
  go_wp2_with (at_builtin; refine wpList_append_own _ rfl _ _ 22 rfl (w.heap.size + 2) 59 i0 (.agg #[.string ⟨#[]⟩, .int .i64 0]) 2 24 Tryd.underlying22 hi hz0 hz1 hz2 rfl (by decide) _ _ _ rfl (O1b.alloc _) ⟨w1.heap.size, 0, none⟩ 1 1 [.string ⟨#[106]⟩, .int .i64 b] rfl rfl ?_ ?_ ?_ ?_ ?_ ?_)
  · intro q x hx
    rcases q with _ | _ | q
    · cases hx; go_cell
    · cases hx; go_cell
    · simp at hx
  · intro x hx
    simp at hx
    rcases hx with rfl | rfl <;> rfl
  · unfold maxLen; omega
  · omega
  · simp; omega
  intro v2 w2 hown2 hg2 _
  have G2 := (G1.below ((Below.refl _ _).alloc (Nat.le_refl _) (Obj.cells #[Value.string ⟨#[106]⟩, Value.int .i64 b] 59))).own (O1b.alloc _) hg2 (by simp only [List.forall_mem_cons]; simp)
  have K2 := (KW1.alloc KW1.size (Obj.cells #[Value.string ⟨#[106]⟩, Value.int .i64 b] 59)).grown hg2 (KW1.alloc KW1.size _).size (fun q hq => by have := (O1b.lt q hq).1; omega)
  have O2 : w2.ownsRow (w.heap.size + 2) 59 2 v2 2 (moCs [mI a, mJ b]) := hown2
  obtain ⟨q2, d2, rfl⟩ := own_slice O2
  obtain ⟨p, c, hp, hS⟩ := own_sl (l := [mI a, mJ b]) O2
  have hle : 2 ≤ d2 := by
    rcases O2.2 with ⟨h, _⟩ | ⟨g, cap, cur, h, _, _, hc, _⟩
    · cases h
    · cases h; exact hc
  cases hp
  have hq : ∀ b' o, q2 = some ⟨b', o, none⟩ → [mI a, mJ b] ≠ [] → b' ≠ w.heap.size + 1 ∧ b' ≠ w.heap.size := fun b' o h _ => by
    subst h
    have := (O2.lt b' rfl).1
    omega
  have e0 := G2.head
  have ze0 := G2.headF
  have e1 := G2.tail.head
  have e2 := G2.tail.tail.head
  have ze2 := G2.tail.tail.headF
  have e3 := G2.tail.tail.tail.head
  have ze3 := G2.tail.tail.tail.headF
  have l1 : w.heap.size + 1 < w2.heap.size := World.block_lt_of_cell? _ _ e0
  clear hown2 hg2 G1 G2 KW1 O1 O1b hi hz0 hz1 hz2 K1
  go_wp2
  refine bodyPost_ret (v := .agg #[.int .i64 k, .slice q2 2 d2]) (by simp [results, Tryd.results53, go_sem, e0, e1, e2, e3, ze0, ze2, ze3, l1]) rfl ⟨q2, d2, rfl, hle, ?_, ?_⟩
  · exact Sl_set (Sl_set (Sl_set hS (fun b o h h2 => (hq b o h h2).1)) (fun b o h h2 => (hq b o h h2).2)) (fun b o h h2 => (hq b o h h2).2)
  · exact ((K2.setCell (p := ⟨w.heap.size + 1, 1, none⟩) (by dsimp only; omega) _).setCell (p := ⟨w.heap.size, 0, none⟩) (by dsimp only; omega) _).setCell (p := ⟨w.heap.size, 1, none⟩) (by dsimp only; omega) _
end Go.Proofs.YtbicmlkjonaccaaDoor.Ln


namespace Go.Proofs.YtbicmlkjonaccaaDoor.Ln
open Go.ChangeShapes Go.WideShapes Go.ChangeAt Go.RowKit
open Go.Proofs.YtbicmlkjonaccaaDoor.Nm
set_option linter.unusedVariables false
set_option linter.unusedSimpArgs false
set_option maxRecDepth 8000

/-- What stands between two terms. -/
def sgT (a : List UInt8) (neg : Bool) : List UInt8 := if a = [] then (if neg then [45] else []) else if neg then [32, 45, 32] else [32, 43, 32]
/-- A monomial without its sign. -/
def tmt (m : Mo) : List UInt8 := (if m.2.natAbs = 1 then [] else Lib.decDigits m.2.natAbs ++ [42]) ++ m.1.data.toList
/-- The text of the first k monomials. -/
def fl (xs : List Mo) : Nat → List UInt8
  | 0 => []
  | k + 1 => fl xs k ++ sgT (fl xs k) (decide ((xs.getD k mo0).2 < 0)) ++ tmt (xs.getD k mo0)
/-- The text of a valid form. -/
def fmL (k : Int) (xs : List Mo) : List UInt8 :=
  if k ≠ 0 ∨ xs.length = 0 then fl xs xs.length ++ sgT (fl xs xs.length) (decide (k < 0)) ++ Lib.decDigits k.natAbs else fl xs xs.length
theorem dec_len : ∀ (m k : Nat), k < 10 ^ (m + 1) → (Lib.decDigits k).length ≤ m + 1
  | 0, k, h => by rw [Lib.decDigits, dif_pos (by simpa using h)]; simp
  | m + 1, k, h => by
    by_cases hk : k < 10
    · rw [Lib.decDigits, dif_pos hk]; simp
    · rw [Lib.decDigits, dif_neg hk, List.length_append]
      have := dec_len m (k / 10) (by rw [Nat.pow_succ] at h; omega)
      simp; omega
theorem dec20 (k : Nat) (h : k < 18446744073709551616) : (Lib.decDigits k).length ≤ 20 := by
  have e : (10 : Nat) ^ (19 + 1) = 100000000000000000000 := by decide
  exact dec_len 19 k (by omega)
theorem sgT_len (a : List UInt8) (b : Bool) : (sgT a b).length ≤ 3 := by unfold sgT; split <;> split <;> simp
theorem tmt_len (m : Mo) (h : -9223372036854775808 ≤ m.2 ∧ m.2 ≤ 9223372036854775807) : (tmt m).length ≤ 21 + m.1.size := by
  unfold tmt
  have h1 := dec20 m.2.natAbs (by omega)
  rw [List.length_append]
  have : m.1.data.toList.length = m.1.size := by simp
  rw [this]
  split
  · simp
  · simp; omega
theorem fl_len {xs : List Mo} {B : Nat} (hb : ∀ i, i < xs.length → (xs.getD i mo0).1.size ≤ B ∧ -9223372036854775808 ≤ (xs.getD i mo0).2 ∧ (xs.getD i mo0).2 ≤ 9223372036854775807) : ∀ k, k ≤ xs.length → (fl xs k).length ≤ k * (24 + B)
  | 0, _ => by simp [fl]
  | k + 1, h => by
    have h1 := fl_len hb k (by omega)
    obtain ⟨h2, h3⟩ := hb k (by omega)
    have h4 := sgT_len (fl xs k) (decide ((xs.getD k mo0).2 < 0))
    have h5 := tmt_len (xs.getD k mo0) h3
    rw [fl, List.length_append, List.length_append, Nat.succ_mul]
    omega
end Go.Proofs.YtbicmlkjonaccaaDoor.Ln


namespace Go.Proofs.YtbicmlkjonaccaaDoor.Ln
open Go.ChangeShapes Go.WideShapes Go.ChangeAt Go.RowKit

set_option linter.unusedVariables false
set_option linter.unusedSimpArgs false
set_option maxRecDepth 8000

theorem rsize (n : Int) (n0 : -9223372036854775808 ≤ n) (n1 : n ≤ 9223372036854775807) (w : World) : Calls Tryd.prog 50 #[.int .i64 n] w fun e w' => e = .returned (.int .u64 n.natAbs) ∧ w = w' := by
  by_cases hn : n < 0
  · obtain ⟨u, rfl⟩ : ∃ u : Nat, n = -(u : Int) := ⟨n.natAbs, by omega⟩
    have e : (-(u : Int)).natAbs = u := by omega
    rw [e]
    have g : decide (-(u : Int) < 0) = true := by simp; omega
    have w1 : IntKind.i64.wrap (-(u : Int) + 1) = -(u : Int) + 1 := by rw [IntKind.wrap_i64]; omega
    have w2 : IntKind.i64.wrap (-(-(u : Int) + 1)) = (u : Int) - 1 := by rw [IntKind.wrap_i64]; omega
    have w3 : IntKind.u64.wrap ((u : Int) - 1) = (u : Int) - 1 := by rw [IntKind.wrap_u64]; omega
    have w4 : IntKind.u64.wrap ((u : Int) - 1 + 1) = (u : Int) := by rw [IntKind.wrap_u64]; omega
    clear e
    go_enter Tryd.func50, Tryd.ntmps50
    go_wp2
    go_ret
    refine ⟨?_, rfl⟩
    first | rfl | (congr 2; rw [IntKind.wrap_u64]; omega) | (congr 2; omega)
  · obtain ⟨u, rfl⟩ : ∃ u : Nat, n = (u : Int) := ⟨n.natAbs, by omega⟩
    have e : (u : Int).natAbs = u := by omega
    rw [e]
    have g : decide ((u : Int) < 0) = false := by simp
    have w3 : IntKind.u64.wrap (u : Int) = (u : Int) := by rw [IntKind.wrap_u64]; omega
    clear e hn
    go_enter Tryd.func50, Tryd.ntmps50
    go_wp2
    go_ret
    exact ⟨rfl, rfl⟩
theorem cvt1 (W : World) (b r : Nat) (h : r < 10) (hc : W.cell? ⟨b, 0, none⟩ = some (.int .u8 (48 + (r : Int)))) : (convert 66 9 (.slice (some ⟨b, 0, none⟩) 1 1)).run Tryd.prog W = .ok (.string ⟨#[UInt8.ofNat (48 + r)]⟩) W := by
  have h2 := run_convert_bytes_back (P := Tryd.prog) W 66 9 5 ⟨b, 0, none⟩ 1 [UInt8.ofNat (48 + r)] Tryd.underlying66 Tryd.underlying5 Tryd.underlying9 (fun j hj => by
    obtain rfl : j = 0 := by simpa using hj
    rw [Lib.add_plain]
    have e : ((UInt8.ofNat (48 + r)).toNat : Int) = 48 + (r : Int) := by
      rw [UInt8.toNat_ofNat_of_lt' (by show 48 + r < 256; omega)]; omega
    simp only [List.getElem_cons_zero]
    rw [e]
    exact hc)
  exact h2
theorem mk_app (a : UInt8) (t : ByteArray) : (⟨#[a]⟩ : ByteArray) ++ t = ⟨(a :: t.data.toList).toArray⟩ := by
  apply ByteArray.ext
  simp
set_option maxRecDepth 100000 in
set_option maxHeartbeats 4000000 in
theorem rdigits (n : Nat) (hn : n < 18446744073709551616) (w : World) : Calls Tryd.prog 51 #[.int .u64 n] w fun e w' => e = .returned (.string ⟨(Lib.decDigits n).toArray⟩) ∧ Below w.heap.size w w' := by
  have hlen := dec20 n hn
  obtain ⟨D, hD⟩ : ∃ D, Lib.decDigits n = D := ⟨_, rfl⟩
  rw [hD] at hlen ⊢
  have HD := Lib.hid hD
  clear hD
  go_enter Tryd.func51, Tryd.ntmps51
  go_wp2
  go_loopw [0, 3] (fun a b wr => ∃ (q : Nat) (t : ByteArray), a = .int .u64 q ∧ b = .string t ∧ q < 18446744073709551616 ∧ t.size ≤ 20 ∧ Hid (Lib.decDigits q ++ t.data.toList = D) ∧ Hid (Below w.heap.size w wr)) (fun a _ _ => (intOf a).toNat)
  case atStart => exact ⟨n, ⟨#[]⟩, rfl, rfl, hn, by decide, Lib.hid (by rw [HD.out]; simp), Lib.hid (Below.refl _ _)⟩
  case round =>
    obtain ⟨q, t, rfl, rfl, hq, ht, HT, HB⟩ := hrel
    have q0 : (0 : Int) ≤ q := by omega
    obtain ⟨r, hr⟩ : ∃ r : Nat, q % 10 = r := ⟨_, rfl⟩
    obtain ⟨k, hk⟩ : ∃ k : Nat, q / 10 = k := ⟨_, rfl⟩
    have hr10 : r < 10 := by omega
    have j3 : (q : Int) % 10 = r := by omega
    have j4 : (q : Int) / 10 = k := by omega
    have j3' : (q : Int).tmod 10 = r := by rw [Int.tmod_eq_emod_of_nonneg q0]; omega
    have j4' : (q : Int).tdiv 10 = k := by rw [Int.tdiv_eq_ediv_of_nonneg q0]; omega
    have r0 : (0 : Int) ≤ r := by omega
    have w1 : IntKind.u64.wrap (48 + (r : Int)) = 48 + r := by rw [IntKind.wrap_u64]; omega
    have w2 : IntKind.u8.wrap (48 + (r : Int)) = 48 + r := by rw [IntKind.wrap_u8]; omega
    have w3 : IntKind.u64.wrap (r : Int) = r := by rw [IntKind.wrap_u64]; omega
    have w4 : IntKind.u64.wrap (k : Int) = k := by rw [IntKind.wrap_u64]; omega
    have hcv : ∀ (W : World) (b : Nat), W.cell? ⟨b, 0, none⟩ = some (.int .u8 (48 + (r : Int))) → (convert 66 9 (.slice (some ⟨b, 0, none⟩) 1 1)).run Tryd.prog W = .ok (.string ⟨#[UInt8.ofNat (48 + r)]⟩) W := fun W b h => cvt1 W b r hr10 h
    have hB1 : Hid (Below w.heap.size w (wr.alloc (Obj.cells #[.int .u8 (48 + (r : Int))] 5))) := Lib.hid (HB.out.alloc HB.out.size _)
    by_cases h : q < 10
    · have k0 : k = 0 := by omega
      have rq : r = q := by omega
      have g : ((k : Int) == 0) = true := by simp; omega
      have hE : (⟨#[UInt8.ofNat (48 + r)]⟩ : ByteArray) ++ t = ⟨D.toArray⟩ := by
        rw [mk_app, ← HT.out, rq, show Lib.decDigits q = [UInt8.ofNat (48 + q)] by rw [Lib.decDigits, dif_pos h]]; rfl
      obtain ⟨c, hc⟩ : ∃ c, (⟨#[UInt8.ofNat (48 + r)]⟩ : ByteArray) = c := ⟨_, rfl⟩
      have hc1 : c.size = 1 := by rw [← hc]; rfl
      rw [hc] at hE hcv
      have HE := Lib.hid hE
      clear hE hc h HT hr hk k0 rq hn hq HB
      go_wp2
      go_ret
      exact ⟨by rw [HE.out]; rfl, hB1.out⟩
    · have g : ((k : Int) == 0) = false := by simp; omega
      have hN : Hid (Lib.decDigits k ++ ((⟨#[UInt8.ofNat (48 + r)]⟩ : ByteArray) ++ t).data.toList = D) := Lib.hid (by
        rw [← HT.out, show Lib.decDigits q = Lib.decDigits (q / 10) ++ [UInt8.ofNat (48 + q % 10)] by rw [Lib.decDigits, dif_neg h], hr, hk]
        simp)
      have hl : ((⟨#[UInt8.ofNat (48 + r)]⟩ : ByteArray) ++ t).size ≤ 20 := by
        rw [Lib.size_eq]
        have h1 := congrArg List.length hN.out
        rw [List.length_append] at h1
        omega
      obtain ⟨c, hc⟩ : ∃ c, (⟨#[UInt8.ofNat (48 + r)]⟩ : ByteArray) = c := ⟨_, rfl⟩
      have hc1 : c.size = 1 := by rw [← hc]; rfl
      rw [hc] at hN hl hcv
      have hkq : k < q := by omega
      have hk2 : k < 18446744073709551616 := by omega
      clear hc h HT hr hk HB
      go_wp2
      go_roundw
      case rel => exact ⟨k, c ++ t, rfl, rfl, hk2, hl, hN, hB1⟩
      case measure => simp [intOf]; omega
end Go.Proofs.YtbicmlkjonaccaaDoor.Ln


namespace Go.Proofs.YtbicmlkjonaccaaDoor.Ln
open Go.ChangeShapes Go.WideShapes Go.ChangeAt Go.RowKit

set_option linter.unusedVariables false
set_option linter.unusedSimpArgs false
set_option maxRecDepth 8000

def ns (neg : Bool) : ByteArray := if neg then ⟨#[32, 45, 32]⟩ else ⟨#[32, 43, 32]⟩
/-- term of the reference. -/
def trm (s : ByteArray) (neg : Bool) (t : ByteArray) : ByteArray := if s.size = 0 then (if neg then (⟨#[45]⟩ : ByteArray) ++ t else t) else s ++ ns neg ++ t
theorem trm_list (s : ByteArray) (neg : Bool) (t : ByteArray) : (trm s neg t).data.toList = s.data.toList ++ sgT s.data.toList neg ++ t.data.toList := by
  unfold trm sgT ns
  by_cases h : s.size = 0
  · have e : s.data.toList = [] := List.eq_nil_of_length_eq_zero (by simpa using h)
    rw [if_pos h, if_pos e, e]
    cases neg <;> simp
  · have e : s.data.toList ≠ [] := fun e => h (by rw [Lib.size_eq, e]; rfl)
    rw [if_neg h, if_neg e]
    cases neg <;> simp
set_option maxRecDepth 100000 in
theorem term1 (s : ByteArray) (neg : Bool) (t : ByteArray) (w : World) (hs : s.size ≤ 100000) (ht : t.size ≤ 100000) : Calls Tryd.prog 52 #[.string s, .bool neg, .string t] w fun e w' => e = .returned (.string (trm s neg t)) ∧ w = w' := by
  have h3 : ∀ b, (ns b).size = 3 := fun b => by cases b <;> rfl
  have h1 : (⟨#[45]⟩ : ByteArray).size = 1 := rfl
  by_cases h : s.size = 0
  · obtain rfl : s = ⟨#[]⟩ := ByteArray.ext (Array.eq_empty_of_size_eq_zero h)
    cases neg
    · rw [show trm ⟨#[]⟩ false t = t from rfl]
      go_enter Tryd.func52, Tryd.ntmps52
      go_wp2
      go_ret
      exact ⟨rfl, rfl⟩
    · rw [show trm ⟨#[]⟩ true t = (⟨#[45]⟩ : ByteArray) ++ t from rfl]
      go_enter Tryd.func52, Tryd.ntmps52
      go_wp2
      go_ret
      exact ⟨rfl, rfl⟩
  · have e : trm s neg t = s ++ ns neg ++ t := by unfold trm; rw [if_neg h]
    rw [e]
    have g : s.toList.isEmpty = false := by
      rw [ByteArray.toList_eq]
      cases hh : s.data.toList with
      | nil => exact absurd (by rw [Lib.size_eq, hh]; rfl) h
      | cons a r => rfl
    have h4 : ∀ b, (s ++ ns b).size = s.size + 3 := fun b => by rw [ByteArray.size_append, h3]
    clear e
    cases neg
    · have e3 : (⟨#[32, 43, 32]⟩ : ByteArray) = ns false := rfl
      have q := h4 false
      have q3 := h3 false
      go_enter Tryd.func52, Tryd.ntmps52
      go_wp2
      go_ret
      exact ⟨rfl, rfl⟩
    · have e3 : (⟨#[32, 45, 32]⟩ : ByteArray) = ns true := rfl
      have q := h4 true
      have q3 := h3 true
      go_enter Tryd.func52, Tryd.ntmps52
      go_wp2
      go_ret
      exact ⟨rfl, rfl⟩
end Go.Proofs.YtbicmlkjonaccaaDoor.Ln


namespace Go.Proofs.YtbicmlkjonaccaaDoor.Ln
open Go.ChangeShapes Go.WideShapes Go.ChangeAt Go.RowKit

set_option linter.unusedVariables false
set_option linter.unusedSimpArgs false
set_option maxRecDepth 8000

open Go.Sort
/-- What the variables of Go's library hold. -/
def LA (w : World) : Prop := Lib.TabIs Tryd.prog w "internal/strconv.uint64pow10" .u64 Lib.pow10Tab ∧ True
theorem LA.below {w w' : World} (h : LA w) (hb : Below w.heap.size w w') : LA w' := ⟨Joins.tab_stays (g := 1) (by kernel_rfl) h.1 hb (Nat.le_refl _), trivial⟩
set_option maxRecDepth 100000 in
set_option maxHeartbeats 4000000 in
theorem fmtU0 (u : Nat) (h2 : u < 18446744073709551616) (w : World) (hL : LA w) : Calls Tryd.prog 116 #[.int .u64 u, .int .i64 10] w fun e w' => e = .returned (.string ⟨(Lib.decDigits u).toArray⟩) ∧ Below w.heap.size w w' := by
  by_cases hs : u < 100
  · have g : decide ((u : Int) < 100) = true := by simp; omega
    have SM := Lib.hid fun w => Tryd.internal_strconv_small u hs w
    have u0 : (u : Int) ≤ 18446744073709551615 := by omega
    have hw : IntKind.i64.wrap (u : Int) = u := by rw [IntKind.wrap_i64]; omega
    clear hs
    go_enter Tryd.func116, Tryd.ntmps116
    go_wp2_with (go_at_call 124; refine (SM.out _).mono ?_; rintro e w' ⟨rfl, rfl⟩)
    go_ret
    exact ⟨rfl, Below.refl _ _⟩
  · have g : decide ((u : Int) < 100) = false := by simp; omega
    have hu1 : 1 ≤ u := by omega
    have hnd20 : Lib.nDigits u ≤ 20 := by have := Lib.numDigits_eq u hu1 h2; split at this <;> omega
    have hb3 : Lib.nDigits u ≤ 24 := by omega
    have hal : Tryd.prog.arrayLen 149 = 24 := by simp [Program.arrayLen, Tryd.underlying149]
    have hH0 := Lib.holds_zero0 w 149 (Lib.nDigits u) (by omega)
    have hfmt := Tryd.internal_strconv_formatBase10 w.heap.size 0 24 u (Array.replicate (Lib.nDigits u) 0) (w.alloc (.cells Lib.zeros24 149)) hH0 (by rw [Array.size_replicate]; exact Lib.lt_pow_nDigits u) h2 (by rw [Array.size_replicate]; omega)
    rw [Array.size_replicate] at hfmt
    have ND := Lib.hid fun w (h : LA w) => Tryd.internal_strconv_numDigits u hu1 h2 w h.1
    have HL := Lib.hid (hL.below ((Below.refl _ _).alloc (Nat.le_refl _) (.cells Lib.zeros24 149)))
    have hsl : ∀ W, (Instr.sliceAt 149 (.pointer (some ⟨w.heap.size, 0, none⟩)) none (some (.int .i64 (Lib.nDigits u : Int))) none).run Tryd.prog W = .ok (.slice (some ⟨w.heap.size, 0, none⟩) (Lib.nDigits u) 24) W := fun W => by
      rw [run_sliceAt_array_h W 149 ⟨w.heap.size, 0, none⟩ (by simp [Program.arrayLen, Program.elem, Tryd.underlying149]) .i64 (Lib.nDigits u : Int) (by omega) (by rw [hal]; omega)]
      go_simp
    have HH0 := Lib.hid hH0
    have HF := Lib.hid hfmt
    clear hH0 hal hfmt hL hs
    go_enter Tryd.func116, Tryd.ntmps116
    go_wp2_with (go_at_call 125; refine (ND.out _ HL.out).mono ?_; rintro e w' ⟨rfl, rfl⟩)
    refine HF.out.mono ?_
    rintro e w' ⟨rfl, k, v', dk, rfl, hF⟩
    have hcv : (convert 66 9 (.slice (some ⟨w.heap.size, 0, none⟩) (Lib.nDigits u) 24)).run Tryd.prog ((putRow (fun (b : UInt8) => Value.int .u8 (b.toNat : Int)) (w.alloc (.cells Lib.zeros24 149)) w.heap.size 0 dk).drewN k) = .ok (.string ⟨(Lib.decDigits u).toArray⟩) ((putRow (fun (b : UInt8) => Value.int .u8 (b.toNat : Int)) (w.alloc (.cells Lib.zeros24 149)) w.heap.size 0 dk).drewN k) := by
      have h := run_convert_bytes_back (P := Tryd.prog) ((putRow (fun (b : UInt8) => Value.int .u8 (b.toNat : Int)) (w.alloc (.cells Lib.zeros24 149)) w.heap.size 0 dk).drewN k) 66 9 5 ⟨w.heap.size, 0, none⟩ 24 (Lib.decDigits u) Tryd.underlying66 Tryd.underlying5 Tryd.underlying9 (fun j hj => by
        rw [Lib.row_is_numeral hF j hj, Lib.add_plain, World.cell?_drewN]
        exact cell?_putRow (fun (b : UInt8) => Value.int .u8 (b.toNat : Int)) _ w.heap.size 0 _ dk HH0.out (by rw [hF.size, Array.size_replicate]) j (by rw [hF.size]; rw [Lib.decDigits_length] at hj; exact hj))
      rw [Lib.decDigits_length] at h
      exact h
    obtain ⟨os, eo⟩ := Lib.fin_at w (.cells Lib.zeros24 149) dk k 0
    have hbl : Below w.heap.size w ((putRow (fun (b : UInt8) => Value.int .u8 (b.toNat : Int)) (w.alloc (.cells Lib.zeros24 149)) w.heap.size 0 dk).drewN k) := by rw [eo]; exact Lib.below_grow _ _ (Nat.le_refl _) _ _
    clear eo
    go_wp2
    go_ret
    exact ⟨rfl, hbl⟩
theorem fmtU (u : Nat) (h2 : u < 18446744073709551616) (w : World) (hL : LA w) : Calls Tryd.prog 89 #[.int .u64 u, .int .i64 10] w fun e w' => e = .returned (.string ⟨(Lib.decDigits u).toArray⟩) ∧ Below w.heap.size w w' := by
  have C := Lib.hid fun w h => fmtU0 u h2 w h
  generalize (⟨(Lib.decDigits u).toArray⟩ : ByteArray) = s at *
  have HL := Lib.hid hL
  clear hL
  go_enter Tryd.func89, Tryd.ntmps89
  go_wp2_with (go_at_call 116; refine (C.out _ HL.out).mono ?_; rintro e w' ⟨rfl, hb⟩)
  go_ret
  exact ⟨rfl, hb⟩
/-- digits of package lin: the magnitude. -/
theorem digs1 (n : Int) (n0 : -9223372036854775808 ≤ n) (n1 : n ≤ 9223372036854775807) (w : World) (hL : LA w) : Calls Tryd.prog 48 #[.int .i64 n] w fun e w' => e = .returned (.string ⟨(Lib.decDigits n.natAbs).toArray⟩) ∧ Below w.heap.size w w' := by
  have HL := Lib.hid hL
  by_cases hn : n < 0
  · obtain ⟨u, rfl⟩ : ∃ u : Nat, n = -(u : Int) := ⟨n.natAbs, by omega⟩
    have e : (-(u : Int)).natAbs = u := by omega
    rw [e]
    have C := Lib.hid fun w h => fmtU u (by omega) w h
    generalize (⟨(Lib.decDigits u).toArray⟩ : ByteArray) = s at *
    have hwr : IntKind.u64.wrap (-IntKind.u64.wrap (-(u : Int))) = (u : Int) := by rw [IntKind.wrap_u64, IntKind.wrap_u64]; omega
    have g : decide (-(u : Int) < 0) = true := by simp; omega
    clear hL e
    go_enter Tryd.func48, Tryd.ntmps48
    go_wp2_with (go_at_call 89; refine (C.out _ HL.out).mono ?_; rintro e w' ⟨rfl, hb⟩)
    go_ret
    exact ⟨rfl, hb⟩
  · obtain ⟨u, rfl⟩ : ∃ u : Nat, n = (u : Int) := ⟨n.natAbs, by omega⟩
    have e : (u : Int).natAbs = u := by omega
    rw [e]
    have C := Lib.hid fun w (h : LA w) => Tryd.strconv_FormatInt_10 u n0 n1 w h.1
    rw [Lib.itoa_nonneg] at C
    generalize (⟨(Lib.decDigits u).toArray⟩ : ByteArray) = s at *
    have g : decide ((u : Int) < 0) = false := by simp
    clear hL e hn
    go_enter Tryd.func48, Tryd.ntmps48
    go_wp2_with (go_at_call 90; refine (C.out _ HL.out).mono ?_; rintro e w' ⟨rfl, k, os, rfl⟩)
    go_ret
    exact ⟨rfl, Lib.below_grow _ _ (Nat.le_refl _) _ _⟩
end Go.Proofs.YtbicmlkjonaccaaDoor.Ln


namespace Go.Proofs.YtbicmlkjonaccaaDoor.Ln
open Go.ChangeShapes Go.WideShapes Go.ChangeAt Go.RowKit

set_option linter.unusedVariables false
set_option linter.unusedSimpArgs false
set_option maxRecDepth 8000
open Go.Shelf
theorem own_any {w : World} {base n : Nat} {e : TypeId} {v : Value} {xs : List Value} (h : w.ownsRow base e 1 v n xs) : ∃ q cap, v = .slice q n cap ∧ (0 < n → ∃ g, q = some ⟨g, 0, none⟩) := by
  rcases h.2 with ⟨rfl, rfl⟩ | ⟨g, cap, cur, rfl, _⟩
  · exact ⟨none, 0, rfl, fun h => by omega⟩
  · exact ⟨_, cap, rfl, fun _ => ⟨g, rfl⟩⟩
theorem sizeB : (Tryd.prog.info? 68).map (·.size) = some 2 := by kernel_rfl
theorem liesB : liesAt Tryd.prog Tryd.prog.depth 68 (2 / Tryd.prog.cellsOf 68) 0 68 1 = true := by kernel_rfl
theorem info5 : (Tryd.prog.info? 5).map (fun i => (i.zero, i.size, i.bytes)) = some (some (.int .u8 0), 1, 1) := by kernel_rfl
set_option maxRecDepth 100000 in
set_option maxHeartbeats 2000000 in
theorem copyCheck (B b : Nat) (bs : List Value) (w : World) (h : Lib.IsBuilder 68 5 B b bs w) :
    Calls Tryd.prog 88 #[.pointer (some ⟨b, 0, none⟩)] w fun e w' => e = .returned (.tuple #[]) ∧ (Lib.BuilderAt 68 5 B b (.pointer (some ⟨b, 0, none⟩)) bs w' ∧ Below B w w' ∧ Lib.OthersKept 5 (some b) w w') := by
  obtain ⟨j, hj, hjs⟩ := Option.map_eq_some_iff.1 sizeB
  rcases h with h | h
  · have h0 := h.cell0
    have hsh := h.shape
    have hfz := h.frozen0
    go_enter Tryd.func88, Tryd.ntmps88
    go_wp2
    rw [Lib.run_to_unsafe w ⟨b, 0, none⟩ Tryd.underlying65 Tryd.underlying140 hj (by rw [hjs]; decide) hsh (Nat.zero_lt_succ 1)]
    simp only [Result.andThen]
    rw [Oper.upon_value]
    go_wp2
    rw [run_callFunc_extern Tryd.func115 (by kernel_rfl) (by kernel_rfl) (by kernel_rfl) (e := Extern.AbiNoEscape.same) (by kernel_rfl)]
    rw [Lib.run_noEscape]
    simp only [Result.andThen]
    rw [Oper.upon_value]
    go_wp2
    rw [Lib.run_from_unsafe w ⟨b, 0, none⟩ Tryd.underlying140 Tryd.underlying65 hj hsh liesB]
    simp only [Result.andThen]
    rw [Oper.upon_value]
    go_wp2
    go_end0
    exact ⟨rfl, h.used _, (Below.refl B w).setCell (p := ⟨b, 0, none⟩) h.1 _, (Lib.OthersKept.refl _ _ w).setCell ⟨b, 0, none⟩ rfl _⟩
  · have h0 := h.cell0
    go_enter Tryd.func88, Tryd.ntmps88
    go_wp2
    rw [Lib.run_neq_ptr_same w _ Tryd.underlying65 hj]
    go_wp2
    go_end0
    exact ⟨rfl, h, Below.refl B _, Lib.OthersKept.refl _ _ _⟩
set_option maxRecDepth 100000 in
set_option maxHeartbeats 4000000 in
theorem writeString (B b : Nat) (bs : List Value) (s : ByteArray) (w : World) (h : Lib.IsBuilder 68 5 B b bs w) (hlen : bs.length + s.size ≤ 140737488355328) (hBw : B ≤ w.heap.size) :
    Calls Tryd.prog 47 #[.pointer (some ⟨b, 0, none⟩), .string s] w fun e w' => e = .returned (.tuple #[.int .i64 s.size, .nilIface]) ∧ (Lib.BuilderAt 68 5 B b (.pointer (some ⟨b, 0, none⟩)) (bs ++ Lib.strCells s) w' ∧ Below B w w' ∧ Lib.OthersKept 5 (some b) w w') := by
  obtain ⟨i0, hi, hz0, hz1, hz2⟩ := info_parts info5
  have CC := Lib.hid (copyCheck B b bs w h)
  go_enter Tryd.func47, Tryd.ntmps47
  go_wp2_with fail
  refine (CC.out).mono ?_
  rintro e w1 ⟨rfl, h1, hb1, hk1⟩
  have hlt := h1.lt
  obtain ⟨hB, v, hbk, hown, hne⟩ := h1
  have c0 : w1.cell? ⟨b, 0, none⟩ = some (.pointer (some ⟨b, 0, none⟩)) := by rw [Lib.cell_of_heap hbk]; rfl
  have c1 : w1.cell? ⟨b, 1, none⟩ = some v := by rw [Lib.cell_of_heap hbk]; rfl
  have hs1 := hb1.size
  go_wp2_with (at_builtin; refine Lib.wpList_append_own_string _ rfl _ _ 66 9 rfl B 5 i0 Tryd.underlying66 Tryd.underlying9 hi hz0 hz1 hz2 _ _ _ rfl hown s rfl ?_ ?_ ?_ ?_)
  · unfold maxLen; omega
  · omega
  · omega
  intro v' w2 hown' hgrow _
  have hb2 : w2.heap[b]? = some (.cells #[.pointer (some ⟨b, 0, none⟩), v] 68 (0, 0)) := by
    rw [hgrow.block b hlt (fun e => hne e.symm)]
    exact hbk
  have d0 : w2.cell? ⟨b, 0, none⟩ = some (.pointer (some ⟨b, 0, none⟩)) := by rw [Lib.cell_of_heap hb2]; rfl
  have d1 : w2.cell? ⟨b, 1, none⟩ = some v := by rw [Lib.cell_of_heap hb2]; rfl
  have f1 : w2.frozen? ⟨b, 1, none⟩ = false := Lib.frozen_of_heap hb2 1
  obtain ⟨q, cap, rfl, _⟩ := own_any hown'
  go_wp2
  go_ret2
  refine ⟨rfl, Lib.BuilderAt.put (T := 68) (e := 5) hB hb2 (bs' := bs ++ Lib.strCells s) (by rw [List.length_append, Lib.strCells_length]; exact hown') (by decide), ?_, (hk1.grown hgrow (Lib.ownsRow_kind hown)).setCell ⟨b, 1, none⟩ rfl _⟩
  exact (hb1.grown hgrow (by omega) (fun k hk => (hown.lt k hk).1)).setCell (p := ⟨b, 1, none⟩) hB _
theorem isB_alloc {B b : Nat} {bs : List Value} {w : World} (h : Lib.IsBuilder 68 5 B b bs w) (o : Obj) : Lib.IsBuilder 68 5 B b bs (w.alloc o) := by
  have key : ∀ p, Lib.BuilderAt 68 5 B b p bs w → Lib.BuilderAt 68 5 B b p bs (w.alloc o) := fun p hh => by
    have hlt := hh.lt
    obtain ⟨hB, v, hb, hown, hne⟩ := hh
    exact ⟨hB, v, (Lib.alloc_old w o b hlt).trans hb, hown.alloc o, hne⟩
  rcases h with h | h
  · exact .inl (key _ h)
  · exact .inr (key _ h)
theorem cells_app (l : List UInt8) (s : ByteArray) : Lib.byteCells l ++ Lib.strCells s = Lib.byteCells (l ++ s.data.toList) := by unfold Lib.byteCells Lib.strCells; rw [List.map_append]
theorem kpb {B : Nat} {y y' : World} {b o : Nat} {v : Value} (hy : Below B y y') (hb : b < B) (h : y.cell? ⟨b, o, none⟩ = some v) : y'.cell? ⟨b, o, none⟩ = some v := (hy.cell (p := ⟨b, o, none⟩) hb).trans h
end Go.Proofs.YtbicmlkjonaccaaDoor.Ln


namespace Go.Proofs.YtbicmlkjonaccaaDoor.Ln
open Go.ChangeShapes Go.WideShapes Go.ChangeAt Go.RowKit

set_option linter.unusedVariables false
set_option linter.unusedSimpArgs false
set_option maxRecDepth 8000

set_option maxRecDepth 100000 in
/-- sign of package lin: what stands between two terms is written. -/
theorem sign1 (B b : Nat) (l : List UInt8) (neg : Bool) (w : World) (h : Lib.IsBuilder 68 5 B b (Lib.byteCells l) w) (hlen : l.length ≤ 100000) (hBw : B ≤ w.heap.size) :
    Calls Tryd.prog 46 #[.pointer (some ⟨b, 0, none⟩), .bool neg] w fun e w' => e = .returned (.tuple #[]) ∧ Lib.IsBuilder 68 5 B b (Lib.byteCells (l ++ sgT l neg)) w' ∧ Below B w w' ∧ Lib.OthersKept 5 (some b) w w' := by
  have LN := Lib.hid fun w h => Tryd.Builder_Len B b (Lib.byteCells l) w h
  rw [Lib.byteCells_length] at LN
  have WS := Lib.hid fun s w h hl hB => writeString B b (Lib.byteCells l) s w h hl hB
  rw [Lib.byteCells_length] at WS
  have HI := Lib.hid h
  by_cases hl : l.length = 0
  · obtain rfl : l = [] := List.eq_nil_of_length_eq_zero hl
    have g : ((([] : List UInt8).length : Int) == 0) = true := rfl
    cases neg
    · have e : ([] : List UInt8) ++ sgT [] false = [] := rfl
      rw [e]
      go_enter Tryd.func46, Tryd.ntmps46
      go_wp2_with (go_at_call 87; refine (LN.out _ HI.out).mono ?_; rintro e w' ⟨rfl, rfl⟩)
      go_end0
      exact ⟨rfl, HI.out, Below.refl _ _, Lib.OthersKept.refl _ _ _⟩
    · have e : Lib.byteCells (([] : List UInt8) ++ sgT [] true) = Lib.byteCells [] ++ Lib.strCells ⟨#[45]⟩ := rfl
      rw [e]
      go_enter Tryd.func46, Tryd.ntmps46
      go_wp2_with (first | (go_at_call 87; refine (LN.out _ HI.out).mono ?_; rintro e w' ⟨rfl, rfl⟩) | (go_at_call 47; refine (WS.out _ _ HI.out (by decide) hBw).mono ?_; rintro e w1 ⟨rfl, k1, k2, k3⟩))
      go_end0
      exact ⟨rfl, .inr k1, k2, k3⟩
  · have hne : l ≠ [] := fun e => hl (by rw [e]; rfl)
    have g : ((l.length : Int) == 0) = false := by simp; exact hne
    cases neg
    · have e : Lib.byteCells (l ++ sgT l false) = Lib.byteCells l ++ Lib.strCells ⟨#[32, 43, 32]⟩ := by
        unfold sgT; rw [if_neg hne, if_neg (by decide)]; unfold Lib.byteCells Lib.strCells; rw [List.map_append]
      rw [e]
      have h3 : (⟨#[32, 43, 32]⟩ : ByteArray).size = 3 := rfl
      clear e hne hl
      go_enter Tryd.func46, Tryd.ntmps46
      go_wp2_with (first | (go_at_call 87; refine (LN.out _ HI.out).mono ?_; rintro e w' ⟨rfl, rfl⟩) | (go_at_call 47; refine (WS.out _ _ HI.out (by rw [h3]; omega) hBw).mono ?_; rintro e w1 ⟨rfl, k1, k2, k3⟩))
      go_end0
      exact ⟨rfl, .inr k1, k2, k3⟩
    · have e : Lib.byteCells (l ++ sgT l true) = Lib.byteCells l ++ Lib.strCells ⟨#[32, 45, 32]⟩ := by
        unfold sgT; rw [if_neg hne, if_pos rfl]; unfold Lib.byteCells Lib.strCells; rw [List.map_append]
      rw [e]
      have h3 : (⟨#[32, 45, 32]⟩ : ByteArray).size = 3 := rfl
      clear e hne hl
      go_enter Tryd.func46, Tryd.ntmps46
      go_wp2_with (first | (go_at_call 87; refine (LN.out _ HI.out).mono ?_; rintro e w' ⟨rfl, rfl⟩) | (go_at_call 47; refine (WS.out _ _ HI.out (by rw [h3]; omega) hBw).mono ?_; rintro e w1 ⟨rfl, k1, k2, k3⟩))
      go_end0
      exact ⟨rfl, .inr k1, k2, k3⟩
end Go.Proofs.YtbicmlkjonaccaaDoor.Ln
