/- Two caches and the reference in one memory. -/
import Derived.Test.YtlmbjipcdhenlaaC10p
import Derived.Test.YtlmbjipcdhenlaaC10s
import Derived.Test.YtlmbjipcdhenlaaC15i
import Derived.Laws.IdiomStrings
namespace Go.Proofs.Ytlmbjipcdhenlaa.Cp
open Go.ChangeShapes Go.WideShapes Go.ChangeAt Go.RowKit
open Go.Proofs.Ytlmbjipcdhenlaa.Ca
set_option linter.unusedVariables false
set_option linter.unusedSimpArgs false
def col (c : Nat → Nat) (n d : Nat) : Nat → Nat := fun k => if k < n then c k else d
theorem free_s {w w' : World} {b base : Nat} {most : Int} {L : List (ByteArray × ByteArray)} {hits misses nb : Nat} {c : Nat → Nat} {e : Nat} (C : Cs.CS w b base most L hits misses nb (fun k => k < w.heap.size ∧ c k ≠ e)) (h : ∀ k, k < w.heap.size → c k = e → w'.heap[k]? = w.heap[k]?) (hs : w.heap.size ≤ w'.heap.size) (d : Nat) :
    Cs.CS w' b base most L hits misses nb (fun k => k < w'.heap.size ∧ col c w.heap.size d k ≠ e) := by
  refine (C.other (fun k hk hS => h k hk (Classical.byContradiction fun hn => hS ⟨hk, hn⟩)) hs).mono ?_
  rintro k ⟨h1, h2⟩
  unfold col at h2
  by_cases hk : k < w.heap.size
  · rw [if_pos hk] at h2; exact .inl ⟨hk, h2⟩
  · exact .inr ⟨by omega, h1⟩
theorem step_s {w w' : World} {b base : Nat} {most : Int} {L : List (ByteArray × ByteArray)} {hits misses nb : Nat} {c : Nat → Nat} {e : Nat} (C : Cs.CS w' b base most L hits misses nb (fun k => k < w.heap.size ∧ c k ≠ e)) :
    Cs.CS w' b base most L hits misses nb (fun k => k < w'.heap.size ∧ col c w.heap.size e k ≠ e) := by
  refine C.mono ?_
  rintro k ⟨h1, h2⟩
  unfold col at h2
  by_cases hk : k < w.heap.size
  · rw [if_pos hk] at h2; exact ⟨hk, h2⟩
  · rw [if_neg hk] at h2; exact absurd rfl h2
theorem base_s {w : World} {b base : Nat} {most : Int} {L : List (ByteArray × ByteArray)} {hits misses nb : Nat} (C : Cs.CV w b base most L hits misses nb) : Cs.CS w b base most L hits misses nb (fun k => k < base) := by
  have hb := C.lt
  obtain ⟨X, h, e⟩ := C
  refine ⟨X, h, e, fun k hk => ?_⟩
  obtain ⟨r, q1, q2, q3⟩ := h.mp
  have h1 := h.lo.1
  refine ⟨by omega, by omega, fun hx => ?_, fun hr => ?_⟩
  · obtain ⟨y, hy, rfl⟩ := List.mem_map.1 hx
    have := h.lo.2 y hy; omega
  · rw [q1] at hr; cases hr; omega
theorem cnt_s {w : World} {b base : Nat} {most : Int} {L : List (ByteArray × ByteArray)} {hits misses nb : Nat} {S : Nat → Prop} (C : Cs.CS w b base most L hits misses nb S) : hits ≤ nb ∧ misses ≤ nb := by
  obtain ⟨X, h, _⟩ := C
  exact h.cnt
theorem free_p {w w' : World} {b base : Nat} {most : Int} {L : List (ByteArray × (ByteArray × Int))} {hits misses nb : Nat} {c : Nat → Nat} {e : Nat} (C : Cp.CS w b base most L hits misses nb (fun k => k < w.heap.size ∧ c k ≠ e)) (h : ∀ k, k < w.heap.size → c k = e → w'.heap[k]? = w.heap[k]?) (hs : w.heap.size ≤ w'.heap.size) (d : Nat) :
    Cp.CS w' b base most L hits misses nb (fun k => k < w'.heap.size ∧ col c w.heap.size d k ≠ e) := by
  refine (C.other (fun k hk hS => h k hk (Classical.byContradiction fun hn => hS ⟨hk, hn⟩)) hs).mono ?_
  rintro k ⟨h1, h2⟩
  unfold col at h2
  by_cases hk : k < w.heap.size
  · rw [if_pos hk] at h2; exact .inl ⟨hk, h2⟩
  · exact .inr ⟨by omega, h1⟩
theorem step_p {w w' : World} {b base : Nat} {most : Int} {L : List (ByteArray × (ByteArray × Int))} {hits misses nb : Nat} {c : Nat → Nat} {e : Nat} (C : Cp.CS w' b base most L hits misses nb (fun k => k < w.heap.size ∧ c k ≠ e)) :
    Cp.CS w' b base most L hits misses nb (fun k => k < w'.heap.size ∧ col c w.heap.size e k ≠ e) := by
  refine C.mono ?_
  rintro k ⟨h1, h2⟩
  unfold col at h2
  by_cases hk : k < w.heap.size
  · rw [if_pos hk] at h2; exact ⟨hk, h2⟩
  · rw [if_neg hk] at h2; exact absurd rfl h2
theorem base_p {w : World} {b base : Nat} {most : Int} {L : List (ByteArray × (ByteArray × Int))} {hits misses nb : Nat} (C : Cp.CV w b base most L hits misses nb) : Cp.CS w b base most L hits misses nb (fun k => k < base) := by
  have hb := C.lt
  obtain ⟨X, h, e⟩ := C
  refine ⟨X, h, e, fun k hk => ?_⟩
  obtain ⟨r, q1, q2, q3⟩ := h.mp
  have h1 := h.lo.1
  refine ⟨by omega, by omega, fun hx => ?_, fun hr => ?_⟩
  · obtain ⟨y, hy, rfl⟩ := List.mem_map.1 hx
    have := h.lo.2 y hy; omega
  · rw [q1] at hr; cases hr; omega
theorem cnt_p {w : World} {b base : Nat} {most : Int} {L : List (ByteArray × (ByteArray × Int))} {hits misses nb : Nat} {S : Nat → Prop} (C : Cp.CS w b base most L hits misses nb S) : hits ≤ nb ∧ misses ≤ nb := by
  obtain ⟨X, h, _⟩ := C
  exact h.cnt
structure T3 (w : World) (b d xb bs bp : Nat) (m : Int) (L1 : List (ByteArray × ByteArray)) (h1 m1 n1 : Nat) (L2 : List (ByteArray × (ByteArray × Int))) (h2 m2 n2 : Nat) (L3 : List (ByteArray × Int)) (h3 m3 : Nat) (va : Value) (c : Nat → Nat) : Prop where
  s : Cs.CS w b bs m L1 h1 m1 n1 (fun k => k < w.heap.size ∧ c k ≠ 1)
  p : Cp.CS w d bp m L2 h2 m2 n2 (fun k => k < w.heap.size ∧ c k ≠ 2)
  r : Ci.RX w xb bs m L3 h3 m3 va
  cx : c xb = 3
  cv : ∀ k, va.ownBlock = some k → c k = 3
theorem cx_keep {w : World} {xb bs : Nat} {m : Int} {L3 : List (ByteArray × Int)} {h3 m3 : Nat} {va : Value} {c : Nat → Nat} (R : Ci.RX w xb bs m L3 h3 m3 va) (h : c xb = 3) (e : Nat) : col c w.heap.size e xb = 3 := by
  have : xb < w.heap.size := Ci.lt_cell R.m
  unfold col; rw [if_pos this]; exact h
theorem cv_keep {w : World} {xb bs : Nat} {m : Int} {L3 : List (ByteArray × Int)} {h3 m3 : Nat} {va : Value} {c : Nat → Nat} (R : Ci.RX w xb bs m L3 h3 m3 va) (h : ∀ k, va.ownBlock = some k → c k = 3) (e : Nat) : ∀ k, va.ownBlock = some k → col c w.heap.size e k = 3 := fun k hk => by
  unfold col; rw [if_pos (R.row.lt k hk).2]; exact h k hk
section
variable {w w' : World} {b d xb bs bp : Nat} {m : Int} {L1 L1' : List (ByteArray × ByteArray)} {h1 m1 n1 h1' m1' n1' : Nat} {L2 L2' : List (ByteArray × (ByteArray × Int))} {h2 m2 n2 h2' m2' n2' : Nat} {L3 L3' : List (ByteArray × Int)} {h3 m3 h3' m3' : Nat} {va : Value} {c : Nat → Nat}
theorem T3.below (T : T3 w b d xb bs bp m L1 h1 m1 n1 L2 h2 m2 n2 L3 h3 m3 va c) (hb : Below w.heap.size w w') : T3 w' b d xb bs bp m L1 h1 m1 n1 L2 h2 m2 n2 L3 h3 m3 va (col c w.heap.size 0) :=
  ⟨free_s T.s (fun k hk _ => hb.block k hk) hb.size 0, free_p T.p (fun k hk _ => hb.block k hk) hb.size 0, T.r.below hb, cx_keep T.r T.cx 0, cv_keep T.r T.cv 0⟩
theorem T3.ons (T : T3 w b d xb bs bp m L1 h1 m1 n1 L2 h2 m2 n2 L3 h3 m3 va c) (hk : Cs.Kp (fun k => k < w.heap.size ∧ c k ≠ 1) w w') (hs : w.heap.size ≤ w'.heap.size) (C' : Cs.CS w' b bs m L1' h1' m1' n1' (fun k => k < w.heap.size ∧ c k ≠ 1)) : T3 w' b d xb bs bp m L1' h1' m1' n1' L2 h2 m2 n2 L3 h3 m3 va (col c w.heap.size 1) :=
  ⟨step_s C', free_p T.p (fun k h9 hc => hk k ⟨h9, by rw [hc]; decide⟩) hs 1, T.r.on (hk xb ⟨Ci.lt_cell T.r.m, by rw [T.cx]; decide⟩) (fun k h9 => hk k ⟨(T.r.row.lt k h9).2, by rw [T.cv k h9]; decide⟩), cx_keep T.r T.cx 1, cv_keep T.r T.cv 1⟩
theorem T3.onp (T : T3 w b d xb bs bp m L1 h1 m1 n1 L2 h2 m2 n2 L3 h3 m3 va c) (hk : Cp.Kp (fun k => k < w.heap.size ∧ c k ≠ 2) w w') (hs : w.heap.size ≤ w'.heap.size) (C' : Cp.CS w' d bp m L2' h2' m2' n2' (fun k => k < w.heap.size ∧ c k ≠ 2)) : T3 w' b d xb bs bp m L1 h1 m1 n1 L2' h2' m2' n2' L3 h3 m3 va (col c w.heap.size 2) :=
  ⟨free_s T.s (fun k h9 hc => hk k ⟨h9, by rw [hc]; decide⟩) hs 2, step_p C', T.r.on (hk xb ⟨Ci.lt_cell T.r.m, by rw [T.cx]; decide⟩) (fun k h9 => hk k ⟨(T.r.row.lt k h9).2, by rw [T.cv k h9]; decide⟩), cx_keep T.r T.cx 2, cv_keep T.r T.cv 2⟩
theorem T3.onr (T : T3 w b d xb bs bp m L1 h1 m1 n1 L2 h2 m2 n2 L3 h3 m3 va c) (hL : Ci.LW xb bs m L3' h3' m3' va w w') : Below bs w w' ∧ (∀ k, k < w.heap.size → k ≠ xb → w'.heap[k]? = w.heap[k]?) ∧ ∃ va' c', T3 w' b d xb bs bp m L1 h1 m1 n1 L2 h2 m2 n2 L3' h3' m3' va' c' := by
  obtain ⟨g, va', R, hv⟩ := hL
  have hx : xb < w.heap.size := Ci.lt_cell T.r.m
  have hlo := T.r.lo
  have hg : ∀ k, k < w.heap.size → k ≠ xb → w'.heap[k]? = w.heap[k]? := fun k hk hne => g.block k hk (by simpa using hne)
  refine ⟨(Below.refl bs w).grown g (by omega) (fun q hq => by cases hq; exact hlo), hg, va', col c w.heap.size 3, free_s T.s (fun k h9 hc => hg k h9 (fun e => by rw [e, T.cx] at hc; cases hc)) g.size 3, free_p T.p (fun k h9 hc => hg k h9 (fun e => by rw [e, T.cx] at hc; cases hc)) g.size 3, R, cx_keep T.r T.cx 3, fun k hk => ?_⟩
  rcases hv k hk with h | h
  · exact cv_keep T.r T.cv 3 k h
  · unfold col; rw [if_neg (by omega)]
end
def bs1 (v : Int) : ByteArray := ⟨#[UInt8.ofNat (v % 256).toNat]⟩
theorem convB (w : World) (v : Int) : (convert 50 9 (.slice (some ⟨w.heap.size, 0, none⟩) 1 1)).run Try.prog (w.alloc (Obj.cells #[Value.int .u8 (v % 256)] 5)) = .ok (.string (bs1 v)) (w.alloc (Obj.cells #[Value.int .u8 (v % 256)] 5)) := by
  refine run_convert_bytes_back _ 50 9 5 ⟨w.heap.size, 0, none⟩ 1 [UInt8.ofNat (v % 256).toNat] Try.underlying50 Try.underlying5 Try.underlying9 (fun j hj => ?_)
  obtain rfl : j = 0 := by simp at hj; omega
  show World.cell? _ _ = some (.int .u8 ((UInt8.ofNat (v % 256).toNat).toNat : Int))
  rw [show ((UInt8.ofNat (v % 256).toNat).toNat : Int) = v % 256 by rw [UInt8.toNat_ofNat']; omega]
  go_cell
def sf (x : ByteArray × Int) : ByteArray × ByteArray := (x.1, bs1 x.2)
def pf (x : ByteArray × Int) : ByteArray × (ByteArray × Int) := (x.1, (bs1 x.2, x.2))
theorem lkv_mapf {β : Type} (f : Int → β) (L : List (ByteArray × Int)) (s : ByteArray) : lkv (L.map fun x => (x.1, f x.2)) s = (lkv L s).map f := by
  induction L with
  | nil => rfl
  | cons x L ih =>
    rw [List.map_cons, lkv_cons, lkv_cons, ih]
    by_cases h : x.1 = s
    · rw [if_pos h, if_pos h]; rfl
    · rw [if_neg h, if_neg h]
theorem rml_mapf {β : Type} (f : Int → β) (L : List (ByteArray × Int)) (s : ByteArray) : rml (L.map fun x => (x.1, f x.2)) s = (rml L s).map fun x => (x.1, f x.2) := by
  unfold rml
  rw [List.filter_map]
  rfl
section
variable {w : World} {b d xb bs bp : Nat} {m : Int} {L : List (ByteArray × Int)} {LA : List (ByteArray × ByteArray)} {LB : List (ByteArray × (ByteArray × Int))} {LC : List (ByteArray × Int)} {h n q h1 m1 n1 h2 m2 n2 h3 m3 : Nat} {va : Value} {c : Nat → Nat}
theorem gets_none (T : T3 w b d xb bs bp m (L.map sf) h n q LB h2 m2 n2 LC h3 m3 va c) (k : ByteArray) (hk : k.size ≤ maxLen) (hq : q < 1000) (hl : lkv L k = none) :
    Calls Try.prog 25 #[.pointer (some ⟨b, 0, none⟩), .string k] w fun e w' => e = .returned (.tuple #[.string ⟨#[]⟩, .bool false]) ∧ Below bs w w' ∧ ∃ c', T3 w' b d xb bs bp m (L.map sf) h (n + 1) (q + 1) LB h2 m2 n2 LC h3 m3 va c' := by
  refine (Cs.getS b bs m (L.map sf) h n q _ k w T.s hk hq).mono ?_
  rintro e w' ⟨hb, hkp, ⟨h1, rfl, C⟩ | ⟨v, h1, rfl, C⟩⟩
  · exact ⟨rfl, hb, _, T.ons hkp hb.size C⟩
  · rw [show L.map sf = L.map fun x => (x.1, bs1 x.2) from rfl, lkv_mapf, hl] at h1; cases h1
theorem gets_some (T : T3 w b d xb bs bp m (L.map sf) h n q LB h2 m2 n2 LC h3 m3 va c) (k : ByteArray) (hk : k.size ≤ maxLen) (hq : q < 1000) (v : Int) (hl : lkv L k = some v) :
    Calls Try.prog 25 #[.pointer (some ⟨b, 0, none⟩), .string k] w fun e w' => e = .returned (.tuple #[.string (bs1 v), .bool true]) ∧ Below bs w w' ∧ ∃ c', T3 w' b d xb bs bp m (((k, v) :: rml L k).map sf) (h + 1) n (q + 1) LB h2 m2 n2 LC h3 m3 va c' := by
  refine (Cs.getS b bs m (L.map sf) h n q _ k w T.s hk hq).mono ?_
  rintro e w' ⟨hb, hkp, ⟨h1, rfl, C⟩ | ⟨v', h1, rfl, C⟩⟩
  · rw [show L.map sf = L.map fun x => (x.1, bs1 x.2) from rfl, lkv_mapf, hl] at h1; cases h1
  · rw [show L.map sf = L.map fun x => (x.1, bs1 x.2) from rfl, lkv_mapf, hl] at h1
    cases h1
    rw [show rml (L.map sf) k = (rml L k).map sf from rml_mapf bs1 L k] at C
    exact ⟨rfl, hb, _, T.ons hkp hb.size C⟩
theorem puts_le (T : T3 w b d xb bs bp m (L.map sf) h n q LB h2 m2 n2 LC h3 m3 va c) (k : ByteArray) (v : Int) (hk : k.size ≤ maxLen) (hq : q < 900) (hm : m ≤ 1024) (hl : ((rml L k).length : Int) + 1 ≤ m) :
    Calls Try.prog 27 #[.pointer (some ⟨b, 0, none⟩), .string k, .string (bs1 v)] w fun e w' => e = .returned (.bool false) ∧ Below bs w w' ∧ ∃ c', T3 w' b d xb bs bp m (((k, v) :: rml L k).map sf) h n (q + 1) LB h2 m2 n2 LC h3 m3 va c' := by
  refine (Cs.putS b bs m (L.map sf) h n q _ k (bs1 v) w T.s hk hq hm).mono ?_
  have hr : rml (L.map sf) k = (rml L k).map sf := rml_mapf bs1 L k
  rintro e w' ⟨hb, hkp, ⟨h1, rfl, C⟩ | ⟨h1, rfl, C⟩⟩
  · rw [hr] at C
    exact ⟨rfl, hb, _, T.ons hkp hb.size C⟩
  · rw [hr, List.length_map] at h1; omega
theorem puts_gt (T : T3 w b d xb bs bp m (L.map sf) h n q LB h2 m2 n2 LC h3 m3 va c) (k : ByteArray) (v : Int) (hk : k.size ≤ maxLen) (hq : q < 900) (hm : m ≤ 1024) (hl : ¬ ((rml L k).length : Int) + 1 ≤ m) :
    Calls Try.prog 27 #[.pointer (some ⟨b, 0, none⟩), .string k, .string (bs1 v)] w fun e w' => e = .returned (.bool true) ∧ Below bs w w' ∧ ∃ c', T3 w' b d xb bs bp m ((((k, v) :: rml L k).dropLast).map sf) h n (q + 1) LB h2 m2 n2 LC h3 m3 va c' := by
  refine (Cs.putS b bs m (L.map sf) h n q _ k (bs1 v) w T.s hk hq hm).mono ?_
  have hr : rml (L.map sf) k = (rml L k).map sf := rml_mapf bs1 L k
  rintro e w' ⟨hb, hkp, ⟨h1, rfl, C⟩ | ⟨h1, rfl, C⟩⟩
  · rw [hr, List.length_map] at h1; omega
  · rw [hr] at C
    rw [List.map_dropLast]
    exact ⟨rfl, hb, _, T.ons hkp hb.size C⟩
theorem keyss (T : T3 w b d xb bs bp m (L.map sf) h n q LB h2 m2 n2 LC h3 m3 va c) (hn : L.length ≤ 2000) :
    Calls Try.prog 30 #[.pointer (some ⟨b, 0, none⟩)] w fun e w' => ∃ p c, e = .returned (.slice p L.length c) ∧ Ci.SlT w' p (L.map (·.1)) ∧ Below w.heap.size w w' := by
  refine (Cs.keysV b bs m (L.map sf) h n q w T.s.cv (by rw [List.length_map]; exact hn)).mono ?_
  rintro e w' ⟨v, rfl, hO, hb⟩
  rw [List.length_map, List.map_map] at hO
  obtain ⟨p1, c1, rfl, _, s1, _⟩ := Ci.own_slT (l := L.map (·.1)) (by rw [List.length_map, List.map_map]; exact hO)
  rw [List.length_map]
  exact ⟨_, _, rfl, s1, hb⟩
end
section
variable {w : World} {b d xb bs bp : Nat} {m : Int} {L : List (ByteArray × Int)} {LA : List (ByteArray × ByteArray)} {LB : List (ByteArray × (ByteArray × Int))} {LC : List (ByteArray × Int)} {h n q h1 m1 n1 h2 m2 n2 h3 m3 : Nat} {va : Value} {c : Nat → Nat}
theorem getp_none (T : T3 w b d xb bs bp m LA h1 m1 n1 (L.map pf) h n q LC h3 m3 va c) (k : ByteArray) (hk : k.size ≤ maxLen) (hq : q < 1000) (hl : lkv L k = none) :
    Calls Try.prog 26 #[.pointer (some ⟨d, 0, none⟩), .string k] w fun e w' => e = .returned (.tuple #[.agg #[.string ⟨#[]⟩, .int .i64 0], .bool false]) ∧ Below bp w w' ∧ ∃ c', T3 w' b d xb bs bp m LA h1 m1 n1 (L.map pf) h (n + 1) (q + 1) LC h3 m3 va c' := by
  refine (Cp.getS d bp m (L.map pf) h n q _ k w T.p hk hq).mono ?_
  rintro e w' ⟨hb, hkp, ⟨h1, rfl, C⟩ | ⟨v, h1, rfl, C⟩⟩
  · exact ⟨rfl, hb, _, T.onp hkp hb.size C⟩
  · rw [show L.map pf = L.map fun x => (x.1, (fun v => (bs1 v, v)) x.2) from rfl, lkv_mapf (fun v => (bs1 v, v)), hl] at h1; cases h1
theorem getp_some (T : T3 w b d xb bs bp m LA h1 m1 n1 (L.map pf) h n q LC h3 m3 va c) (k : ByteArray) (hk : k.size ≤ maxLen) (hq : q < 1000) (v : Int) (hl : lkv L k = some v) :
    Calls Try.prog 26 #[.pointer (some ⟨d, 0, none⟩), .string k] w fun e w' => e = .returned (.tuple #[.agg #[.string (bs1 v), .int .i64 v], .bool true]) ∧ Below bp w w' ∧ ∃ c', T3 w' b d xb bs bp m LA h1 m1 n1 (((k, v) :: rml L k).map pf) (h + 1) n (q + 1) LC h3 m3 va c' := by
  refine (Cp.getS d bp m (L.map pf) h n q _ k w T.p hk hq).mono ?_
  rintro e w' ⟨hb, hkp, ⟨h1, rfl, C⟩ | ⟨v', h1, rfl, C⟩⟩
  · rw [show L.map pf = L.map fun x => (x.1, (fun v => (bs1 v, v)) x.2) from rfl, lkv_mapf (fun v => (bs1 v, v)), hl] at h1; cases h1
  · rw [show L.map pf = L.map fun x => (x.1, (fun v => (bs1 v, v)) x.2) from rfl, lkv_mapf (fun v => (bs1 v, v)), hl] at h1
    cases h1
    rw [show rml (L.map pf) k = (rml L k).map pf from rml_mapf (fun v => (bs1 v, v)) L k] at C
    exact ⟨rfl, hb, _, T.onp hkp hb.size C⟩
theorem putp_le (T : T3 w b d xb bs bp m LA h1 m1 n1 (L.map pf) h n q LC h3 m3 va c) (k : ByteArray) (v : Int) (hk : k.size ≤ maxLen) (hq : q < 900) (hm : m ≤ 1024) (hl : ((rml L k).length : Int) + 1 ≤ m) :
    Calls Try.prog 28 #[.pointer (some ⟨d, 0, none⟩), .string k, .agg #[.string (bs1 v), .int .i64 v]] w fun e w' => e = .returned (.bool false) ∧ Below bp w w' ∧ ∃ c', T3 w' b d xb bs bp m LA h1 m1 n1 (((k, v) :: rml L k).map pf) h n (q + 1) LC h3 m3 va c' := by
  refine (Cp.putS d bp m (L.map pf) h n q _ k (bs1 v, v) w T.p hk hq hm).mono ?_
  have hr : rml (L.map pf) k = (rml L k).map pf := rml_mapf (fun v => (bs1 v, v)) L k
  rintro e w' ⟨hb, hkp, ⟨h1, rfl, C⟩ | ⟨h1, rfl, C⟩⟩
  · rw [hr] at C
    exact ⟨rfl, hb, _, T.onp hkp hb.size C⟩
  · rw [hr, List.length_map] at h1; omega
theorem putp_gt (T : T3 w b d xb bs bp m LA h1 m1 n1 (L.map pf) h n q LC h3 m3 va c) (k : ByteArray) (v : Int) (hk : k.size ≤ maxLen) (hq : q < 900) (hm : m ≤ 1024) (hl : ¬ ((rml L k).length : Int) + 1 ≤ m) :
    Calls Try.prog 28 #[.pointer (some ⟨d, 0, none⟩), .string k, .agg #[.string (bs1 v), .int .i64 v]] w fun e w' => e = .returned (.bool true) ∧ Below bp w w' ∧ ∃ c', T3 w' b d xb bs bp m LA h1 m1 n1 ((((k, v) :: rml L k).dropLast).map pf) h n (q + 1) LC h3 m3 va c' := by
  refine (Cp.putS d bp m (L.map pf) h n q _ k (bs1 v, v) w T.p hk hq hm).mono ?_
  have hr : rml (L.map pf) k = (rml L k).map pf := rml_mapf (fun v => (bs1 v, v)) L k
  rintro e w' ⟨hb, hkp, ⟨h1, rfl, C⟩ | ⟨h1, rfl, C⟩⟩
  · rw [hr, List.length_map] at h1; omega
  · rw [hr] at C
    rw [List.map_dropLast]
    exact ⟨rfl, hb, _, T.onp hkp hb.size C⟩
theorem keysp (T : T3 w b d xb bs bp m LA h1 m1 n1 (L.map pf) h n q LC h3 m3 va c) (hn : L.length ≤ 2000) :
    Calls Try.prog 32 #[.pointer (some ⟨d, 0, none⟩)] w fun e w' => ∃ p c, e = .returned (.slice p L.length c) ∧ Ci.SlT w' p (L.map (·.1)) ∧ Below w.heap.size w w' := by
  refine (Cp.keysV d bp m (L.map pf) h n q w T.p.cv (by rw [List.length_map]; exact hn)).mono ?_
  rintro e w' ⟨v, rfl, hO, hb⟩
  rw [List.length_map, List.map_map] at hO
  obtain ⟨p1, c1, rfl, _, s1, _⟩ := Ci.own_slT (l := L.map (·.1)) (by rw [List.length_map, List.map_map]; exact hO)
  rw [List.length_map]
  exact ⟨_, _, rfl, s1, hb⟩
end
section
variable {w : World} {b d xb bs bp : Nat} {m : Int} {L : List (ByteArray × Int)} {LA : List (ByteArray × ByteArray)} {LB : List (ByteArray × (ByteArray × Int))} {h n q h1 m1 n1 h2 m2 n2 h3 m3 : Nat} {va : Value} {c : Nat → Nat}
theorem getr_none (T : T3 w b d xb bs bp m LA h1 m1 n1 LB h2 m2 n2 L h n va c) (k : ByteArray) (hn : L.length ≤ 1000) (hnd : (L.map (·.1)).Nodup) (hh : h ≤ 1000) (hm : n ≤ 1000) (hl : lkv L k = none) :
    Calls Try.prog 17 #[.pointer (some ⟨xb, 0, none⟩), .string k] w fun e w' => e = .returned (.tuple #[.int .i64 0, .bool false]) ∧ Below bs w w' ∧ (∀ q, q < w.heap.size → q ≠ xb → w'.heap[q]? = w.heap[q]?) ∧ ∃ va' c', T3 w' b d xb bs bp m LA h1 m1 n1 LB h2 m2 n2 L h (n + 1) va' c' := by
  refine (Ci.rget1 xb bs m L h n va k w (Lib.hid T.r) hn hnd hh hm).mono ?_
  rintro e w' (⟨h1, rfl, hL⟩ | ⟨v, h1, rfl, hL⟩)
  · exact ⟨rfl, (T.onr hL).1, (T.onr hL).2⟩
  · rw [hl] at h1; cases h1
theorem getr_some (T : T3 w b d xb bs bp m LA h1 m1 n1 LB h2 m2 n2 L h n va c) (k : ByteArray) (hn : L.length ≤ 1000) (hnd : (L.map (·.1)).Nodup) (hh : h ≤ 1000) (hm : n ≤ 1000) (v : Int) (hl : lkv L k = some v) :
    Calls Try.prog 17 #[.pointer (some ⟨xb, 0, none⟩), .string k] w fun e w' => e = .returned (.tuple #[.int .i64 v, .bool true]) ∧ Below bs w w' ∧ (∀ q, q < w.heap.size → q ≠ xb → w'.heap[q]? = w.heap[q]?) ∧ ∃ va' c', T3 w' b d xb bs bp m LA h1 m1 n1 LB h2 m2 n2 ((k, v) :: rml L k) (h + 1) n va' c' := by
  refine (Ci.rget1 xb bs m L h n va k w (Lib.hid T.r) hn hnd hh hm).mono ?_
  rintro e w' (⟨h1, rfl, hL⟩ | ⟨v', h1, rfl, hL⟩)
  · rw [hl] at h1; cases h1
  · rw [hl] at h1; cases h1
    exact ⟨rfl, (T.onr hL).1, (T.onr hL).2⟩
theorem putr_le (T : T3 w b d xb bs bp m LA h1 m1 n1 LB h2 m2 n2 L h n va c) (k : ByteArray) (v : Int) (hn : (L.length : Int) ≤ m) (hm : m ≤ 1024) (hm1 : 1 ≤ m) (hnd : (L.map (·.1)).Nodup) (hl : ((rml L k).length : Int) + 1 ≤ m) :
    Calls Try.prog 19 #[.pointer (some ⟨xb, 0, none⟩), .string k, .int .i64 v] w fun e w' => e = .returned (.bool false) ∧ Below bs w w' ∧ (∀ q, q < w.heap.size → q ≠ xb → w'.heap[q]? = w.heap[q]?) ∧ ∃ va' c', T3 w' b d xb bs bp m LA h1 m1 n1 LB h2 m2 n2 ((k, v) :: rml L k) h n va' c' := by
  refine (Ci.rput1 xb bs m L h n va k v w (Lib.hid T.r) hn hm hm1 hnd).mono ?_
  rintro e w' (⟨_, rfl, hL⟩ | ⟨h1, rfl, hL⟩)
  · exact ⟨rfl, (T.onr hL).1, (T.onr hL).2⟩
  · omega
theorem putr_gt (T : T3 w b d xb bs bp m LA h1 m1 n1 LB h2 m2 n2 L h n va c) (k : ByteArray) (v : Int) (hn : (L.length : Int) ≤ m) (hm : m ≤ 1024) (hm1 : 1 ≤ m) (hnd : (L.map (·.1)).Nodup) (hl : ¬ ((rml L k).length : Int) + 1 ≤ m) :
    Calls Try.prog 19 #[.pointer (some ⟨xb, 0, none⟩), .string k, .int .i64 v] w fun e w' => e = .returned (.bool true) ∧ Below bs w w' ∧ (∀ q, q < w.heap.size → q ≠ xb → w'.heap[q]? = w.heap[q]?) ∧ ∃ va' c', T3 w' b d xb bs bp m LA h1 m1 n1 LB h2 m2 n2 ((k, v) :: rml L k).dropLast h n va' c' := by
  refine (Ci.rput1 xb bs m L h n va k v w (Lib.hid T.r) hn hm hm1 hnd).mono ?_
  rintro e w' (⟨h1, rfl, hL⟩ | ⟨h1, rfl, hL⟩)
  · omega
  · exact ⟨rfl, (T.onr hL).1, (T.onr hL).2⟩
theorem keysr (T : T3 w b d xb bs bp m LA h1 m1 n1 LB h2 m2 n2 L h n va c) (hn : L.length ≤ 2000) :
    Calls Try.prog 31 #[.pointer (some ⟨xb, 0, none⟩)] w fun e w' => ∃ p c, e = .returned (.slice p L.length c) ∧ Ci.SlT w' p (L.map (·.1)) ∧ Below w.heap.size w w' := by
  refine (Ci.rkeys1 xb bs m L h n va w (Lib.hid T.r) hn).mono ?_
  rintro e w' ⟨v, rfl, hO, hb⟩
  obtain ⟨p1, c1, rfl, _, s1, _⟩ := Ci.own_slT (l := L.map (·.1)) (by rw [List.length_map, List.map_map]; exact hO)
  rw [List.length_map]
  exact ⟨_, _, rfl, s1, hb⟩
end
theorem streq (p q : Option Addr) (L : List (ByteArray × Int)) (c d : Nat) (w : World) (hn : L.length ≤ maxLen) (RA : Ci.SlT w p (L.map (·.1))) (RB : Ci.SlT w q (L.map (·.1))) :
    Calls Try.prog 29 #[.slice p L.length c, .slice q L.length d] w fun e w' => e = .returned (.bool true) ∧ Below w.heap.size w w' := by
  have CE := Ci.stringsEq p q (L.map (·.1)) c d w (by rw [List.length_map]; exact hn) (Lib.hid RA) (Lib.hid RB)
  rw [List.length_map] at CE
  exact CE
end Go.Proofs.Ytlmbjipcdhenlaa.Cp
