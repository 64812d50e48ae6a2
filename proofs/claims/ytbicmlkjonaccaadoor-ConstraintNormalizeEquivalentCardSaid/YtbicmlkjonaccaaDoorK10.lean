/- The stable sort of a row of constraints. -/
import Derived.Test.YtbicmlkjonaccaaDoorS9
import Derived.Test.YtbicmlkjonaccaaDoorK6
import Derived.Test.YtbicmlkjonaccaaDoorK5
import Derived.OneCell
import Derived.Test.YtbicmlkjonaccaaDoorK3
import Derived.Test.YtbicmlkjonaccaaDoorK0

namespace Go.Proofs.YtbicmlkjonaccaaDoor.Ln
open Go.ChangeShapes Go.WideShapes Go.ChangeAt Go.RowKit
open Go.Proofs.YtbicmlkjonaccaaDoor.Nm
set_option linter.unusedVariables false
set_option linter.unusedSimpArgs false
set_option maxRecDepth 8000

/-- The blocks before a are sorted. -/
inductive PreC (cf : E5 -> E5 -> Int) (bs : Nat) (L : List E5) : Nat -> Prop
 | zero : PreC cf bs L 0
 | snoc {a : Nat} : PreC cf bs L a -> SrtC cf a (a + bs) L -> PreC cf bs L (a + bs)
/-- The blocks from a on are sorted, the last of them up to n. -/
inductive BlkC (cf : E5 -> E5 -> Int) (bs n : Nat) (L : List E5) : Nat -> Prop
 | done {a : Nat} : n <= a -> BlkC cf bs n L a
 | step {a : Nat} : SrtC cf a (min (a + bs) n) L -> BlkC cf bs n L (a + bs) -> BlkC cf bs n L a
variable {cf : E5 -> E5 -> Int}
theorem PreC.keep {bs a c d : Nat} {L L' : List E5} (P : PreC cf bs L a) (r : RngC c d L L') : a <= c -> PreC cf bs L' a := by
 induction P with
 | zero => intro _; exact .zero
 | snoc P S ih => intro h; exact .snoc (ih (by omega)) (S.keep r (Or.inl h))
theorem BlkC.keep {bs n a c d : Nat} {L L' : List E5} (P : BlkC cf bs n L a) (r : RngC c d L L') : d <= a -> BlkC cf bs n L' a := by
 induction P with
 | done h => intro _; exact .done h
 | step S P ih => intro h; exact .step (S.keep r (Or.inr h)) (ih (by omega))
theorem PreC.all {bs n a : Nat} {L : List E5} (P : PreC cf bs L a) : a <= n -> BlkC cf bs n L a -> BlkC cf bs n L 0 := by
 induction P with
 | zero => intro _ h; exact h
 | @snoc a P S ih => intro h B; exact ih (by omega) (.step (by rw [show min (a + bs) n = a + bs by omega]; exact S) B)
theorem BlkC.two {bs n a : Nat} {L : List E5} (B : BlkC cf bs n L a) (h : a + bs < n) : SrtC cf a (a + bs) L /\ SrtC cf (a + bs) (min (a + bs + bs) n) L /\ BlkC cf bs n L (a + bs + bs) := by
 cases B with
 | done h2 => exact absurd h2 (by omega)
 | step S B =>
  rw [show min (a + bs) n = a + bs by omega] at S
  cases B with
  | done h2 => exact absurd h2 (by omega)
  | step S2 B2 => exact ⟨S, S2, B2⟩
theorem BlkC.one {bs n a : Nat} {L : List E5} (B : BlkC cf bs n L a) (h : n <= a + bs) : SrtC cf a n L := by
 cases B with
 | done h2 => intro i j i1 ij j1; omega
 | step S B => rw [show min (a + bs) n = n by omega] at S; exact S
theorem BlkC.last {bs n a : Nat} {L : List E5} (S : SrtC cf a n L) (h : n <= a + bs) : BlkC cf bs n L a := .step (by rw [show min (a + bs) n = n by omega]; exact S) (.done h)

theorem symV (g cap base n : Nat) (D : List E5) (cf : E5 -> E5 -> Int) (O : OrdC cf) (wo : World) (hn : n <= 100000) (NC : Hid (∀ x y, x ∈ D -> y ∈ D -> ∀ w', K59 wo w' -> Calls Tryd.prog 72 #[agE x, agE y] w' fun e w2 => e = .returned (.int .i64 (cf x y)) /\ Below w'.heap.size w' w2)) (a m b : Nat) (L0 : List E5) (w : World) (HL : Hid (L0.length = n /\ ∀ x ∈ L0, x ∈ D)) (h1 : a < m) (h2 : m < b) (h3 : b <= n) (hO : Hid (w.ownsRow base 36 3 (.slice (some ⟨g, 0, none⟩) n cap) n (rowE L0))) (KO : Hid (K59 wo w)) (hbw : base <= w.heap.size) (SA : Hid (SrtC cf a m L0)) (SB : Hid (SrtC cf m b L0)) (va vm vb : Value) (ea : va = .int .i64 (a : Int)) (em : vm = .int .i64 (m : Int)) (eb : vb = .int .i64 (b : Int)) :
  Calls Tryd.prog 121 #[.slice (some ⟨g, 0, none⟩) n cap, va, vm, vb, .func (.func 72) #[] #[]] w fun e w' => e = .returned (.tuple #[]) /\ Below base w w' /\ K59 w w' /\ ∃ L', RngC a b L0 L' /\ SrtC cf a b L' /\ Hid (w'.ownsRow base 36 3 (.slice (some ⟨g, 0, none⟩) n cap) n (rowE L')) := by
 subst ea em eb
 exact symN g cap base n D cf O wo hn NC (b - a) a m b L0 w HL h1 h2 h3 (Nat.le_refl _) hO KO hbw SA SB

set_option maxRecDepth 100000 in
set_option maxHeartbeats 16000000 in
/-- The stable sort of a row. -/
theorem stN (g cap base n : Nat) (D L0 : List E5) (cf : E5 -> E5 -> Int) (O : OrdC cf) (wo w : World) (hn : n <= 100000) (HL : Hid (L0.length = n /\ ∀ x ∈ L0, x ∈ D)) (hO : Hid (w.ownsRow base 36 3 (.slice (some ⟨g, 0, none⟩) n cap) n (rowE L0))) (NC : Hid (∀ x y, x ∈ D -> y ∈ D -> ∀ w', K59 wo w' -> Calls Tryd.prog 72 #[agE x, agE y] w' fun e w2 => e = .returned (.int .i64 (cf x y)) /\ Below w'.heap.size w' w2)) (KO : Hid (K59 wo w)) (hbw : base <= w.heap.size) :
  Calls Tryd.prog 102 #[.slice (some ⟨g, 0, none⟩) n cap, .int .i64 (n : Int), .func (.func 72) #[] #[]] w fun e w' => e = .returned (.tuple #[]) /\ Below base w w' /\ K59 w w' /\ ∃ L', RngC 0 n L0 L' /\ SrtC cf 0 n L' /\ Hid (w'.ownsRow base 36 3 (.slice (some ⟨g, 0, none⟩) n cap) n (rowE L')) := by
 have OO := Lib.hid O
 clear O
 go_enter Tryd.func102, Tryd.ntmps102
 go_wp2_with fail
 go_loopw [7, 8] (fun av bv wr => ∃ (a b : Nat) (L : List E5), av = .int .i64 (a : Int) /\ bv = .int .i64 (b : Int) /\ a <= n /\ b <= a + 20 /\ a + 20 <= b /\ Hid (PreC cf 20 L a) /\ Hid (L.length = n /\ ∀ x ∈ L, x ∈ D) /\ Hid (RngC 0 n L0 L) /\ Hid (wr.ownsRow base 36 3 (.slice (some ⟨g, 0, none⟩) n cap) n (rowE L)) /\ Hid (Below base w wr) /\ Hid (K59 w wr)) (fun av _ _ => n - (intOf av).toNat)
 case atStart => exact ⟨0, 20, L0, by go_num, by go_num, by omega, by omega, by omega, Lib.hid .zero, HL, Lib.hid (RngC.refl _ _ _), hO, Lib.hid (Below.refl _ _), Lib.hid (fun _ _ h => h)⟩
 case round =>
  clear hO HL
  obtain ⟨a, b, L, rfl, rfl, han, hba, hab, HP, HM, HR, hOW, hB, hK⟩ := hrel
  by_cases hbn : b <= n
  ·have i1 : (b : Int) <= n := by omega
   have IC : Hid (Calls Tryd.prog 120 #[.slice (some ⟨g, 0, none⟩) n cap, .int .i64 (a : Int), .int .i64 (b : Int), .func (.func 72) #[] #[]] wr fun e w' => e = .returned (.tuple #[]) /\ Below base wr w' /\ K59 wr w' /\ ∃ L', RngC a b L L' /\ SrtC cf a b L' /\ Hid (w'.ownsRow base 36 3 (.slice (some ⟨g, 0, none⟩) n cap) n (rowE L'))) := Lib.hid (Calls.mono (insN g cap base n a b L cf wr hn HM.out.1 (by omega) (by omega) hOW (Lib.hid fun x hx y hy w' k => NC.out x y (HM.out.2 x hx) (HM.out.2 y hy) w' ((KO.out.trans hK.out).trans k)) (by have := hB.out.size; omega)) (by
    rintro e w' ⟨rfl, B, K, R⟩
    refine ⟨rfl, B, K, _, ?_, ?_, R⟩
    ·by_cases h : a < b
     ·exact (ins_sorts OO.out h (by rw [HM.out.1]; omega)).1
     ·rw [ins_empty _ _ _ _ (by omega)]; exact RngC.refl _ _ _
    ·by_cases h : a < b
     ·exact (ins_sorts OO.out h (by rw [HM.out.1]; omega)).2
     ·intro i j i1 ij j1; omega))
   go_wp2_with (go_at_call 120; (with_reducible refine IC.out.mono ?_); rintro e w1 ⟨rfl, B1, K1, L1, r1, s1, O1⟩)
   go_roundw
   case rel => exact ⟨b, b + 20, L1, by go_num, by go_num, by omega, by omega, by omega, Lib.hid (by
    have h := PreC.snoc (HP.out.keep r1 (Nat.le_refl _)) (by rw [show a + 20 = b by omega]; exact s1)
    rw [show a + 20 = b by omega] at h; exact h), Lib.hid ⟨by rw [r1.len]; exact HM.out.1, fun x hx => HM.out.2 _ (r1.perm.mem_iff.mp hx)⟩, Lib.hid (HR.out.trans (r1.mono (by omega) (by omega))), O1, Lib.hid (hB.out.trans B1), Lib.hid (hK.out.trans K1)⟩
   case measure => simp [intOf]; omega
  ·have i1 : ¬ (b : Int) <= n := by omega
   have IC : Hid (Calls Tryd.prog 120 #[.slice (some ⟨g, 0, none⟩) n cap, .int .i64 (a : Int), .int .i64 (n : Int), .func (.func 72) #[] #[]] wr fun e w' => e = .returned (.tuple #[]) /\ Below base wr w' /\ K59 wr w' /\ ∃ L', RngC a n L L' /\ SrtC cf a n L' /\ Hid (w'.ownsRow base 36 3 (.slice (some ⟨g, 0, none⟩) n cap) n (rowE L'))) := Lib.hid (Calls.mono (insN g cap base n a n L cf wr hn HM.out.1 (by omega) (by omega) hOW (Lib.hid fun x hx y hy w' k => NC.out x y (HM.out.2 x hx) (HM.out.2 y hy) w' ((KO.out.trans hK.out).trans k)) (by have := hB.out.size; omega)) (by
    rintro e w' ⟨rfl, B, K, R⟩
    refine ⟨rfl, B, K, _, ?_, ?_, R⟩
    ·by_cases h : a < n
     ·exact (ins_sorts OO.out h (by rw [HM.out.1]; omega)).1
     ·rw [ins_empty _ _ _ _ (by omega)]; exact RngC.refl _ _ _
    ·by_cases h : a < n
     ·exact (ins_sorts OO.out h (by rw [HM.out.1]; omega)).2
     ·intro i j i1 ij j1; omega))
   go_wp2_with (go_at_call 120; (with_reducible refine IC.out.mono ?_); rintro e w1 ⟨rfl, B1, K1, L1, r1, s1, O1⟩; have HB0 := Lib.hid (PreC.all (HP.out.keep r1 (Nat.le_refl _)) han (BlkC.last s1 (by omega))); have HM1 : Hid (L1.length = n /\ ∀ x ∈ L1, x ∈ D) := Lib.hid ⟨by rw [r1.len]; exact HM.out.1, fun x hx => HM.out.2 _ (r1.perm.mem_iff.mp hx)⟩; have HR1 := Lib.hid (HR.out.trans (r1.mono (by omega) (Nat.le_refl _))); have HB1 := Lib.hid (hB.out.trans B1); have HK1 := Lib.hid (hK.out.trans K1))
   clear HP HM HR hOW hB hK IC r1 s1 B1 K1
   go_loopw [6] (fun sv wr => ∃ (bs : Nat) (L : List E5), sv = .int .i64 (bs : Int) /\ 20 <= bs /\ bs <= n + n + 20 /\ Hid (BlkC cf bs n L 0) /\ Hid (L.length = n /\ ∀ x ∈ L, x ∈ D) /\ Hid (RngC 0 n L0 L) /\ Hid (wr.ownsRow base 36 3 (.slice (some ⟨g, 0, none⟩) n cap) n (rowE L)) /\ Hid (Below base w wr) /\ Hid (K59 w wr)) (fun sv _ => n - (intOf sv).toNat)
   case atStart => exact ⟨20, L1, by go_num, by omega, by omega, HB0, HM1, HR1, O1, HB1, HK1⟩
   case round =>
    clear HB0 HM1 HR1 O1 HB1 HK1
    obtain ⟨bs, L, rfl, hbs, hbs2, HP, HM, HR, hOW, hB, hK⟩ := hrel
    by_cases hlt : bs < n
    ·have i2 : (bs : Int) < n := by omega
     go_wp2_with fail
     go_loopw [7, 8] (fun av bv wr => ∃ (a b : Nat) (L : List E5), av = .int .i64 (a : Int) /\ bv = .int .i64 (b : Int) /\ a <= n /\ b <= a + (bs + bs) /\ a + (bs + bs) <= b /\ Hid (PreC cf (bs + bs) L a) /\ Hid (BlkC cf bs n L a) /\ Hid (L.length = n /\ ∀ x ∈ L, x ∈ D) /\ Hid (RngC 0 n L0 L) /\ Hid (wr.ownsRow base 36 3 (.slice (some ⟨g, 0, none⟩) n cap) n (rowE L)) /\ Hid (Below base w wr) /\ Hid (K59 w wr)) (fun av _ _ => n - (intOf av).toNat)
     case atStart => exact ⟨0, bs + bs, L, by go_num, by go_num, by omega, by omega, by omega, Lib.hid .zero, HP, HM, HR, hOW, hB, hK⟩
     case round =>
      clear HP HM HR hOW hB hK
      obtain ⟨a, b, L, rfl, rfl, han, hba, hab, HP, HQ, HM, HR, hOW, hB, hK⟩ := hrel
      by_cases hbn : b <= n
      ·have i3 : (b : Int) <= n := by omega
       have T := Lib.hid (HQ.out.two (by omega))
       have RC := Lib.hid (symV g cap base n D cf OO.out wo hn NC a (a + bs) b L wr HM (by omega) (by omega) (by omega) hOW (Lib.hid (KO.out.trans hK.out)) (by have := hB.out.size; omega) (Lib.hid T.out.1) (Lib.hid (by have h := T.out.2.1; rw [show min (a + bs + bs) n = b by omega] at h; exact h)))
       go_wp2_with (go_at_call 121; (with_reducible refine (RC.out _ _ _ (by go_num) (by go_num) (by go_num)).mono ?_); rintro e w1 ⟨rfl, B1, K1, L1, r1, s1, O1⟩)
       go_roundw
       case rel => exact ⟨b, b + (bs + bs), L1, by go_num, by go_num, by omega, by omega, by omega, Lib.hid (by
        have h := PreC.snoc (HP.out.keep r1 (Nat.le_refl _)) (by rw [show a + (bs + bs) = b by omega]; exact s1)
        rw [show a + (bs + bs) = b by omega] at h; exact h), Lib.hid (by
        have h := T.out.2.2.keep r1 (by omega)
        rw [show a + bs + bs = b by omega] at h; exact h), Lib.hid ⟨by rw [r1.len]; exact HM.out.1, fun x hx => HM.out.2 _ (r1.perm.mem_iff.mp hx)⟩, Lib.hid (HR.out.trans (r1.mono (by omega) (by omega))), O1, Lib.hid (hB.out.trans B1), Lib.hid (hK.out.trans K1)⟩
       case measure => simp [intOf]; omega
      ·have i3 : ¬ (b : Int) <= n := by omega
       by_cases hm : a + bs < n
       ·have i4 : (a : Int) + bs < n := by omega
        have T := Lib.hid (HQ.out.two hm)
        have RC := Lib.hid (symV g cap base n D cf OO.out wo hn NC a (a + bs) n L wr HM (by omega) (by omega) (Nat.le_refl _) hOW (Lib.hid (KO.out.trans hK.out)) (by have := hB.out.size; omega) (Lib.hid T.out.1) (Lib.hid (by have h := T.out.2.1; rw [show min (a + bs + bs) n = n by omega] at h; exact h)))
        go_wp2_with (go_at_call 121; (with_reducible refine (RC.out _ _ _ (by go_num) (by go_num) (by go_num)).mono ?_); rintro e w1 ⟨rfl, B1, K1, L1, r1, s1, O1⟩)
        go_roundw
        case rel => exact ⟨bs + bs, L1, by go_num, by omega, by omega, Lib.hid (PreC.all (HP.out.keep r1 (Nat.le_refl _)) han (BlkC.last s1 (by omega))), Lib.hid ⟨by rw [r1.len]; exact HM.out.1, fun x hx => HM.out.2 _ (r1.perm.mem_iff.mp hx)⟩, Lib.hid (HR.out.trans (r1.mono (by omega) (Nat.le_refl _))), O1, Lib.hid (hB.out.trans B1), Lib.hid (hK.out.trans K1)⟩
        case measure => simp [intOf]; omega
       ·have i4 : ¬ (a : Int) + bs < n := by omega
        go_wp2_with fail
        go_roundw
        case rel => exact ⟨bs + bs, L, by go_num, by omega, by omega, Lib.hid (PreC.all HP.out han (BlkC.last (HQ.out.one (by omega)) (by omega))), HM, HR, hOW, hB, hK⟩
        case measure => simp [intOf]; omega
    ·have i2 : ¬ (bs : Int) < n := by omega
     go_wp2_with fail
     go_end0
     exact ⟨rfl, hB.out, hK.out, L, HR.out, HP.out.one (by omega), hOW⟩

set_option maxRecDepth 100000 in
set_option maxHeartbeats 8000000 in
/-- SortStableFunc of a row of constraints. -/
theorem sortN (g cap base n : Nat) (D L0 : List E5) (cf : E5 -> E5 -> Int) (O : OrdC cf) (wo w : World) (hn : n <= 100000) (HL : Hid (L0.length = n /\ ∀ x ∈ L0, x ∈ D)) (hO : Hid (w.ownsRow base 36 3 (.slice (some ⟨g, 0, none⟩) n cap) n (rowE L0))) (NC : Hid (∀ x y, x ∈ D -> y ∈ D -> ∀ w', K59 wo w' -> Calls Tryd.prog 72 #[agE x, agE y] w' fun e w2 => e = .returned (.int .i64 (cf x y)) /\ Below w'.heap.size w' w2)) (KO : Hid (K59 wo w)) (hbw : base <= w.heap.size) :
  Calls Tryd.prog 71 #[.slice (some ⟨g, 0, none⟩) n cap, .func (.func 72) #[] #[]] w fun e w' => e = .returned (.tuple #[]) /\ Below base w w' /\ K59 w w' /\ ∃ L', RngC 0 n L0 L' /\ SrtC cf 0 n L' /\ Hid (w'.ownsRow base 36 3 (.slice (some ⟨g, 0, none⟩) n cap) n (rowE L')) := by
 have IC := Lib.hid (stN g cap base n D L0 cf O wo w hn HL hO NC KO hbw)
 go_enter Tryd.func71, Tryd.ntmps71
 go_wp2_with (go_at_call 102; (with_reducible refine IC.out.mono ?_); rintro e w1 ⟨rfl, B1, K1, L1, r1, s1, O1⟩)
 go_end0
 exact ⟨rfl, B1, K1, L1, r1, s1, O1⟩
end Go.Proofs.YtbicmlkjonaccaaDoor.Ln


namespace Go.Proofs.YtbicmlkjonaccaaDoor.Ln
open Go.ChangeShapes Go.WideShapes Go.ChangeAt Go.RowKit
open Go.Proofs.YtbicmlkjonaccaaDoor.Nm
set_option linter.unusedVariables false
set_option linter.unusedSimpArgs false
set_option maxRecDepth 8000
/-- What the closure of Normalize leaves of a constraint that is kept: one element more in the row that the variable at gt holds. -/
def NPa (K : Int) (ys : List Mo) (fq pb : Bool) (gt m : Nat) (cs : List Value) (w w' : World) : Prop := ∃ vl' q d, w'.heap[gt]? = some (.cells #[vl'] 30 (0, 0)) /\ w'.heap[gt + 1]? = some (.cells #[.bool pb] 4 (0, 0)) /\
 w'.ownsRow (gt + 2) 36 3 vl' (m + 1) (cs ++ [.int .i64 K, .slice q ys.length d, .bool fq]) /\ SlK w' q ys /\ Below gt w w' /\ K59 w w'
set_option maxRecDepth 100000 in
set_option maxHeartbeats 4000000 in
theorem ncla (eqf fq pb : Bool) (k K : Int) (p : Option Addr) (xs ys : List Mo) (c gt m : Nat) (vl : Value) (cs : List Value) (w : World) (hm : m <= 1000) (T : Hid (∀ w', SlM w' p xs -> Calls Tryd.prog 28 #[Cv k p xs.length c eqf] w' (TR (K, ys, fq, 0, 0) w'))) (RA : Hid (SlM w p xs))
  (ht : w.heap[gt]? = some (.cells #[vl] 30 (0, 0))) (hp : w.heap[gt + 1]? = some (.cells #[.bool pb] 4 (0, 0))) (hO : Hid (w.ownsRow (gt + 2) 36 3 vl m cs)) :
  Calls Tryd.prog 70 #[Cv k p xs.length c eqf, .pointer (some ⟨gt, 0, none⟩), .pointer (some ⟨gt + 1, 0, none⟩)] w fun e w' => e = .returned (.int .i64 0) /\ NPa K ys fq pb gt m cs w w' := by
 obtain ⟨i0, hi, hz0, hz1, hz2⟩ := info_parts info36
 have ct : w.cell? ⟨gt, 0, none⟩ = some vl := by rw [Lib.cell_of_heap ht]; rfl
 have cp : w.cell? ⟨gt + 1, 0, none⟩ = some (.bool pb) := by rw [Lib.cell_of_heap hp]; rfl
 have zt := Lib.frozen_of_heap ht 0
 have zp := Lib.frozen_of_heap hp 0
 have lt : gt + 1 < w.heap.size := World.block_lt_of_cell? _ _ cp
 have B0 : Below w.heap.size w (w.alloc (Obj.cells #[Value.int .i64 k, Value.slice p xs.length c, Value.bool eqf] 36)) := (Below.refl _ _).alloc (Nat.le_refl _) _
 have F0 : Cl [(gt, 0, vl), (gt + 1, 0, .bool pb)] (w.alloc (Obj.cells #[Value.int .i64 k, Value.slice p xs.length c, Value.bool eqf] 36)) := (Cl.cons ct zt (Cl.cons cp zp (Cl.nil _))).below B0
 have O0 := hO.out.alloc (Obj.cells #[Value.int .i64 k, Value.slice p xs.length c, Value.bool eqf] 36)
 have T2 := Lib.hid fun w h => T.out w h
 have HH := Lib.hid (And.intro ht hp)
 unfold Cv at *
 clear ht hp ct cp zt zp
 go_enter Tryd.func70, Tryd.ntmps70
 go_wp2_with (first | (go_at_call 28; (with_reducible refine (T2.out _ (SlM.keep B0 RA.out)).mono ?_); rintro e w1 ⟨q, d, rfl, S1, hfr, hb⟩; unfold Cv; dsimp only at S1 hfr ⊢; have F1 := F0.below hb; have O1 := own_belowE O0 hb; have s1 := hb.size; have x0 := F1.head; have zx0 := F1.headF; have x1 := F1.tail.head; have zx1 := F1.tail.headF; have lg1 : gt < w1.heap.size := World.block_lt_of_cell? _ _ x0; have lg2 : gt + 1 < w1.heap.size := World.block_lt_of_cell? _ _ x1) | (at_builtin; refine wpList_append_own _ rfl _ _ 30 rfl (gt + 2) 36 i0 (.agg #[.int .i64 0, .slice none 0 0, .bool false]) 3 40 Tryd.underlying30 hi hz0 hz1 hz2 rfl (by decide) _ _ _ rfl ((O1.alloc _).alloc _) ⟨w1.heap.size + 1, 0, none⟩ 1 1 [.int .i64 K, .slice q ys.length d, .bool fq] rfl rfl ?_ ?_ ?_ ?_ ?_ ?_))
 ·intro q x hx
  rcases q with _ | _ | _ | q
  ·cases hx; go_cell
  ·cases hx; go_cell
  ·cases hx; go_cell
  ·simp at hx
 ·intro x hx
  simp at hx
  rcases hx with rfl | rfl | rfl <;> rfl
 ·unfold maxLen; omega
 ·omega
 ·simp at s1; simp; omega
 intro v' w4 hown' hgrow _
 have B1 : Below w.heap.size w w1 := B0.trans (hb.mono B0.size)
 have B3 : Below w1.heap.size w1 ((w1.alloc (Obj.cells #[Value.int .i64 K, Value.slice q ys.length d, Value.bool fq] 36)).alloc (Obj.cells #[Value.int .i64 K, Value.slice q ys.length d, Value.bool fq] 36)) := ((Below.refl _ _).alloc (Nat.le_refl _) _).alloc (by simp) _
 have SK1 : SlK w1 q ys := ⟨S1, hfr⟩
 have OB := (O1.alloc (Obj.cells #[Value.int .i64 K, Value.slice q ys.length d, Value.bool fq] 36)).alloc (Obj.cells #[Value.int .i64 K, Value.slice q ys.length d, Value.bool fq] 36)
 have hblk : ∀ b, b < w.heap.size -> b < gt + 2 -> w4.heap[b]? = w.heap[b]? := fun b hb1 hb2 => by
  rw [hgrow.block b (by have := B3.size; have := B1.size; omega) (fun hh => by have := (OB.lt b hh.symm).1; omega), B3.block b (by have := B1.size; omega), B1.block b hb1]
 have ht4 := (hblk gt (by omega) (by omega)).trans HH.out.1
 have hp4 := (hblk (gt + 1) (by omega) (by omega)).trans HH.out.2
 have k4 : K59 w w4 := ((K59.below B1).trans (K59.below B3)).trans (K59.own OB (by decide) hgrow)
 have k14 : K59 w1 w4 := (K59.below B3).trans (K59.own OB (by decide) hgrow)
 have bel4 : Below gt w w4 := ((B1.mono (by omega)).trans (B3.mono (by have := B1.size; omega))).grown hgrow (by have := B1.size; have := B3.size; omega) (fun k hk => by have := (OB.lt k hk).1; omega)
 have y0 : w4.cell? ⟨gt, 0, none⟩ = some vl := by rw [Lib.cell_of_heap ht4]; rfl
 have zy0 := Lib.frozen_of_heap ht4 0
 have y1 : w4.cell? ⟨gt + 1, 0, none⟩ = some (.bool pb) := by rw [Lib.cell_of_heap hp4]; rfl
 have zy1 := Lib.frozen_of_heap hp4 0
 have l4 : gt + 1 < w4.heap.size := World.block_lt_of_cell? _ _ y1
 have hov := Lib.hid hown'
 clear hown' hgrow OB B3 B1 O1 F1 O0 F0 B0 hblk x0 zx0 x1 zx1 hi hz0 hz1 hz2
 obtain ⟨q', c', rfl⟩ := own_slice hov.out
 have h1 := one_setCell (u := .slice q' (m + 1) c') ht4
 have h2 : (w4.setCell ⟨gt, 0, none⟩ (.slice q' (m + 1) c')).heap[gt + 1]? = some (.cells #[.bool pb] 4 (0, 0)) := (Below.heap_setCell _ _ _ _ (by dsimp only; omega)).trans hp4
 have ks := (K59.set (o := 0) (.slice q' (m + 1) c') ht4 (by decide)).trans (K59.set (o := 0) (.bool pb) h2 (by decide))
 cases pb
 all_goals (go_wp2; go_ret; refine ⟨rfl, .slice q' (m + 1) c', q, d, (Below.heap_setCell _ _ _ _ (by dsimp only; omega)).trans h1, one_setCell h2, own_set (own_set hov.out (by dsimp only; omega)) (by dsimp only; omega), SK1.on (k14.trans ks), (bel4.setCell (p := ⟨gt, 0, none⟩) (by dsimp only; omega) _).setCell (p := ⟨gt + 1, 0, none⟩) (by dsimp only; omega) _, k4.trans ks⟩)

set_option maxRecDepth 100000 in
set_option maxHeartbeats 4000000 in
/-- A constraint that always holds. -/
theorem nclt (eqf fq pb : Bool) (k K : Int) (p : Option Addr) (xs ys : List Mo) (c gt : Nat) (vl : Value) (w : World) (T : Hid (∀ w', SlM w' p xs -> Calls Tryd.prog 28 #[Cv k p xs.length c eqf] w' (TR (K, ys, fq, 1, 0) w'))) (RA : Hid (SlM w p xs))
  (ht : w.heap[gt]? = some (.cells #[vl] 30 (0, 0))) (hp : w.heap[gt + 1]? = some (.cells #[.bool pb] 4 (0, 0))) :
  Calls Tryd.prog 70 #[Cv k p xs.length c eqf, .pointer (some ⟨gt, 0, none⟩), .pointer (some ⟨gt + 1, 0, none⟩)] w fun e w' => e = .returned (.int .i64 0) /\ w'.heap[gt]? = some (.cells #[vl] 30 (0, 0)) /\ w'.heap[gt + 1]? = some (.cells #[.bool pb] 4 (0, 0)) /\ Below (gt + 1) w w' /\ K59 w w' /\ (∀ b, b < w.heap.size -> b ≠ gt + 1 -> w'.heap[b]? = w.heap[b]?) := by
 have ct : w.cell? ⟨gt, 0, none⟩ = some vl := by rw [Lib.cell_of_heap ht]; rfl
 have cp : w.cell? ⟨gt + 1, 0, none⟩ = some (.bool pb) := by rw [Lib.cell_of_heap hp]; rfl
 have zt := Lib.frozen_of_heap ht 0
 have zp := Lib.frozen_of_heap hp 0
 have lt : gt + 1 < w.heap.size := World.block_lt_of_cell? _ _ cp
 have B0 : Below w.heap.size w (w.alloc (Obj.cells #[Value.int .i64 k, Value.slice p xs.length c, Value.bool eqf] 36)) := (Below.refl _ _).alloc (Nat.le_refl _) _
 have F0 : Cl [(gt, 0, vl), (gt + 1, 0, .bool pb)] (w.alloc (Obj.cells #[Value.int .i64 k, Value.slice p xs.length c, Value.bool eqf] 36)) := (Cl.cons ct zt (Cl.cons cp zp (Cl.nil _))).below B0
 have T2 := Lib.hid fun w h => T.out w h
 have HH := Lib.hid (And.intro ht hp)
 unfold Cv at *
 clear ht hp ct cp zt zp
 cases pb
 all_goals go_enter Tryd.func70, Tryd.ntmps70
 all_goals go_wp2_with (go_at_call 28; (with_reducible refine (T2.out _ (SlM.keep B0 RA.out)).mono ?_); rintro e w1 ⟨q, d, rfl, S1, hfr, hb⟩; unfold Cv; dsimp only at S1 hfr ⊢; have F1 := F0.below hb; have s1 := hb.size; have x0 := F1.head; have zx0 := F1.headF; have x1 := F1.tail.head; have zx1 := F1.tail.headF; have lg1 : gt < w1.heap.size := World.block_lt_of_cell? _ _ x0; have lg2 : gt + 1 < w1.heap.size := World.block_lt_of_cell? _ _ x1)
 all_goals go_ret
 all_goals
  have BX : Below w.heap.size w w1 := B0.trans (hb.mono B0.size)
  have bt := (BX.block gt (by omega)).trans HH.out.1
  have bp := (BX.block (gt + 1) (by omega)).trans HH.out.2
  refine ⟨rfl, ?_, ?_, ?_, ?_, fun b h1 h2 => (((Below.refl _ _).alloc (Nat.le_refl _) _).block b (by have := BX.size; simp; omega)).trans ((Below.heap_setCell _ _ _ _ (by dsimp only; omega)).trans (BX.block b h1))⟩
  ·exact (((Below.refl _ _).alloc (Nat.le_refl _) _).block gt (by simp; omega)).trans ((Below.heap_setCell _ _ _ _ (by dsimp only; omega)).trans bt)
  ·exact (((Below.refl _ _).alloc (Nat.le_refl _) _).block (gt + 1) (by simp; omega)).trans (one_setCell bp)
  ·exact ((BX.mono (show gt + 1 <= w.heap.size by omega)).setCell (p := ⟨gt + 1, 0, none⟩) (by dsimp only; omega) _).alloc (by have := BX.size; simp; omega) _
  ·exact ((K59.below BX).trans (K59.set (o := 0) _ bp (by decide))).trans (K59.below ((Below.refl _ _).alloc (Nat.le_refl _) _))

set_option maxRecDepth 100000 in
set_option maxHeartbeats 4000000 in
/-- A constraint that never holds. -/
theorem nclf (eqf fq pb : Bool) (k K : Int) (p : Option Addr) (xs ys : List Mo) (c gt : Nat) (vl : Value) (w : World) (T : Hid (∀ w', SlM w' p xs -> Calls Tryd.prog 28 #[Cv k p xs.length c eqf] w' (TR (K, ys, fq, 2, 0) w'))) (RA : Hid (SlM w p xs))
  (ht : w.heap[gt]? = some (.cells #[vl] 30 (0, 0))) (hp : w.heap[gt + 1]? = some (.cells #[.bool pb] 4 (0, 0))) :
  Calls Tryd.prog 70 #[Cv k p xs.length c eqf, .pointer (some ⟨gt, 0, none⟩), .pointer (some ⟨gt + 1, 0, none⟩)] w fun e w' => e = .returned (.int .i64 0) /\ w'.heap[gt]? = some (.cells #[vl] 30 (0, 0)) /\ w'.heap[gt + 1]? = some (.cells #[.bool false] 4 (0, 0)) /\ Below (gt + 1) w w' /\ K59 w w' /\ (∀ b, b < w.heap.size -> b ≠ gt + 1 -> w'.heap[b]? = w.heap[b]?) := by
 have ct : w.cell? ⟨gt, 0, none⟩ = some vl := by rw [Lib.cell_of_heap ht]; rfl
 have cp : w.cell? ⟨gt + 1, 0, none⟩ = some (.bool pb) := by rw [Lib.cell_of_heap hp]; rfl
 have zt := Lib.frozen_of_heap ht 0
 have zp := Lib.frozen_of_heap hp 0
 have lt : gt + 1 < w.heap.size := World.block_lt_of_cell? _ _ cp
 have B0 : Below w.heap.size w (w.alloc (Obj.cells #[Value.int .i64 k, Value.slice p xs.length c, Value.bool eqf] 36)) := (Below.refl _ _).alloc (Nat.le_refl _) _
 have F0 : Cl [(gt, 0, vl), (gt + 1, 0, .bool pb)] (w.alloc (Obj.cells #[Value.int .i64 k, Value.slice p xs.length c, Value.bool eqf] 36)) := (Cl.cons ct zt (Cl.cons cp zp (Cl.nil _))).below B0
 have T2 := Lib.hid fun w h => T.out w h
 have HH := Lib.hid (And.intro ht hp)
 unfold Cv at *
 clear ht hp ct cp zt zp
 cases pb
 all_goals go_enter Tryd.func70, Tryd.ntmps70
 all_goals go_wp2_with (go_at_call 28; (with_reducible refine (T2.out _ (SlM.keep B0 RA.out)).mono ?_); rintro e w1 ⟨q, d, rfl, S1, hfr, hb⟩; unfold Cv; dsimp only at S1 hfr ⊢; have F1 := F0.below hb; have s1 := hb.size; have x0 := F1.head; have zx0 := F1.headF; have x1 := F1.tail.head; have zx1 := F1.tail.headF; have lg1 : gt < w1.heap.size := World.block_lt_of_cell? _ _ x0; have lg2 : gt + 1 < w1.heap.size := World.block_lt_of_cell? _ _ x1)
 all_goals go_ret
 all_goals
  have BX : Below w.heap.size w w1 := B0.trans (hb.mono B0.size)
  have bt := (BX.block gt (by omega)).trans HH.out.1
  have bp := (BX.block (gt + 1) (by omega)).trans HH.out.2
  refine ⟨rfl, ?_, ?_, ?_, ?_, fun b h1 h2 => (((Below.refl _ _).alloc (Nat.le_refl _) _).block b (by have := BX.size; simp; omega)).trans ((Below.heap_setCell _ _ _ _ (by dsimp only; omega)).trans (BX.block b h1))⟩
  ·exact (((Below.refl _ _).alloc (Nat.le_refl _) _).block gt (by simp; omega)).trans ((Below.heap_setCell _ _ _ _ (by dsimp only; omega)).trans bt)
  ·exact (((Below.refl _ _).alloc (Nat.le_refl _) _).block (gt + 1) (by simp; omega)).trans (one_setCell bp)
  ·exact ((BX.mono (show gt + 1 <= w.heap.size by omega)).setCell (p := ⟨gt + 1, 0, none⟩) (by dsimp only; omega) _).alloc (by have := BX.size; simp; omega) _
  ·exact ((K59.below BX).trans (K59.set (o := 0) _ bp (by decide))).trans (K59.below ((Below.refl _ _).alloc (Nat.le_refl _) _))

set_option maxRecDepth 100000 in
set_option maxHeartbeats 4000000 in
/-- A constraint that cannot be tightened. -/
theorem ncle (eqf fq pb : Bool) (k K : Int) (p : Option Addr) (xs ys : List Mo) (c gt : Nat) (er : Int) (her : er ≠ 0) (vl : Value) (w : World) (T : Hid (∀ w', SlM w' p xs -> Calls Tryd.prog 28 #[Cv k p xs.length c eqf] w' (TR (K, ys, fq, 0, er) w'))) (RA : Hid (SlM w p xs))
  (ht : w.heap[gt]? = some (.cells #[vl] 30 (0, 0))) (hp : w.heap[gt + 1]? = some (.cells #[.bool pb] 4 (0, 0))) :
  Calls Tryd.prog 70 #[Cv k p xs.length c eqf, .pointer (some ⟨gt, 0, none⟩), .pointer (some ⟨gt + 1, 0, none⟩)] w fun e w' => e = .returned (.int .i64 er) /\ w'.heap[gt]? = some (.cells #[vl] 30 (0, 0)) /\ w'.heap[gt + 1]? = some (.cells #[.bool pb] 4 (0, 0)) /\ Below (gt + 1) w w' /\ K59 w w' /\ (∀ b, b < w.heap.size -> b ≠ gt + 1 -> w'.heap[b]? = w.heap[b]?) := by
 have ct : w.cell? ⟨gt, 0, none⟩ = some vl := by rw [Lib.cell_of_heap ht]; rfl
 have cp : w.cell? ⟨gt + 1, 0, none⟩ = some (.bool pb) := by rw [Lib.cell_of_heap hp]; rfl
 have zt := Lib.frozen_of_heap ht 0
 have zp := Lib.frozen_of_heap hp 0
 have lt : gt + 1 < w.heap.size := World.block_lt_of_cell? _ _ cp
 have B0 : Below w.heap.size w (w.alloc (Obj.cells #[Value.int .i64 k, Value.slice p xs.length c, Value.bool eqf] 36)) := (Below.refl _ _).alloc (Nat.le_refl _) _
 have F0 : Cl [(gt, 0, vl), (gt + 1, 0, .bool pb)] (w.alloc (Obj.cells #[Value.int .i64 k, Value.slice p xs.length c, Value.bool eqf] 36)) := (Cl.cons ct zt (Cl.cons cp zp (Cl.nil _))).below B0
 have T2 := Lib.hid fun w h => T.out w h
 have HH := Lib.hid (And.intro ht hp)
 unfold Cv at *
 clear ht hp ct cp zt zp
 cases pb
 all_goals go_enter Tryd.func70, Tryd.ntmps70
 all_goals go_wp2_with (go_at_call 28; (with_reducible refine (T2.out _ (SlM.keep B0 RA.out)).mono ?_); rintro e w1 ⟨q, d, rfl, S1, hfr, hb⟩; unfold Cv; dsimp only at S1 hfr ⊢; have F1 := F0.below hb; have s1 := hb.size; have x0 := F1.head; have zx0 := F1.headF; have x1 := F1.tail.head; have zx1 := F1.tail.headF; have lg1 : gt < w1.heap.size := World.block_lt_of_cell? _ _ x0; have lg2 : gt + 1 < w1.heap.size := World.block_lt_of_cell? _ _ x1)
 all_goals go_ret
 all_goals
  have BX : Below w.heap.size w w1 := B0.trans (hb.mono B0.size)
  have bt := (BX.block gt (by omega)).trans HH.out.1
  have bp := (BX.block (gt + 1) (by omega)).trans HH.out.2
  refine ⟨rfl, ?_, ?_, ?_, ?_, fun b h1 h2 => (((Below.refl _ _).alloc (Nat.le_refl _) _).block b (by have := BX.size; simp; omega)).trans ((Below.heap_setCell _ _ _ _ (by dsimp only; omega)).trans (BX.block b h1))⟩
  ·exact (((Below.refl _ _).alloc (Nat.le_refl _) _).block gt (by simp; omega)).trans ((Below.heap_setCell _ _ _ _ (by dsimp only; omega)).trans bt)
  ·exact (((Below.refl _ _).alloc (Nat.le_refl _) _).block (gt + 1) (by simp; omega)).trans (one_setCell bp)
  ·exact ((BX.mono (show gt + 1 <= w.heap.size by omega)).setCell (p := ⟨gt + 1, 0, none⟩) (by dsimp only; omega) _).alloc (by have := BX.size; simp; omega) _
  ·exact ((K59.below BX).trans (K59.set (o := 0) _ bp (by decide))).trans (K59.below ((Below.refl _ _).alloc (Nat.le_refl _) _))
end Go.Proofs.YtbicmlkjonaccaaDoor.Ln


namespace Go.Proofs.YtbicmlkjonaccaaDoor.Ln
open Go.ChangeShapes Go.WideShapes Go.ChangeAt Go.RowKit
set_option linter.unusedVariables false
set_option linter.unusedSimpArgs false
theorem getD_memS {xs : List Mo} {j : Nat} (h : j < xs.length) : xs.getD j mo0 ∈ xs := by
 have e1 : xs.getD j mo0 = xs[j] := by unfold List.getD; rw [List.getElem?_eq_getElem h]; rfl
 rw [e1]
 exact List.getElem_mem h
theorem take_stepS {xs : List Mo} {j : Nat} (h : j < xs.length) : xs.take (j + 1) = xs.take j ++ [xs.getD j mo0] := by
 rw [List.take_succ_eq_append_getElem h]
 have e1 : xs.getD j mo0 = xs[j] := by unfold List.getD; rw [List.getElem?_eq_getElem h]; rfl
 rw [e1]

end Go.Proofs.YtbicmlkjonaccaaDoor.Ln


namespace Go.Proofs.YtbicmlkjonaccaaDoor.Ln
open Go.ChangeShapes Go.WideShapes Go.ChangeAt Go.RowKit
open Go.Proofs.YtbicmlkjonaccaaDoor.Nm
set_option linter.unusedVariables false
set_option linter.unusedSimpArgs false
set_option maxRecDepth 8000

abbrev Qm := Int × List Mo × Bool
abbrev q0m : Qm := (0, [], false)
/-- A slice of constraints. -/
def SlQ (w : World) (p : Option Addr) (l : List Qm) : Prop := ∀ i, i < l.length -> ∃ b o q c, p = some ⟨b, o, none⟩ /\ w.cell? ⟨b, o + i * 3, none⟩ = some (.int .i64 (l.getD i q0m).1) /\ w.cell? ⟨b, o + i * 3 + 1, none⟩ = some (.slice q (l.getD i q0m).2.1.length c) /\ w.cell? ⟨b, o + i * 3 + 2, none⟩ = some (.bool (l.getD i q0m).2.2) /\ SlM w q (l.getD i q0m).2.1
def smN (m : Mo) : Bool := decide (m.1.size <= 100)
def smF (f : Qm) : Bool := decide (f.2.1.length <= 40) && f.2.1.all smN
/-- What the laws on constraints take as small. -/
def smQ (lim : Nat) (l : List Qm) : Bool := decide (l.length <= lim) && l.all smF
theorem qget {l : List Qm} {i : Nat} (h : i < l.length) : l.getD i q0m ∈ l := by
 have e1 : l.getD i q0m = l[i] := by unfold List.getD; rw [List.getElem?_eq_getElem h]; rfl
 rw [e1]
 exact List.getElem_mem h
theorem qtake {l : List Qm} {i : Nat} (h : i < l.length) : l.take (i + 1) = l.take i ++ [l.getD i q0m] := by
 rw [List.take_succ_eq_append_getElem h]
 have e1 : l.getD i q0m = l[i] := by unfold List.getD; rw [List.getElem?_eq_getElem h]; rfl
 rw [e1]
set_option maxRecDepth 100000 in
set_option maxHeartbeats 8000000 in
theorem small6 (p : Option Addr) (l : List Qm) (c lim : Nat) (w : World) (hn : l.length <= maxLen) (hv : Hid (∀ f ∈ l, f.2.1.length <= maxLen)) (hlim : lim <= 1000) (RA : Hid (SlQ w p l)) :
  Calls Tryd.prog 20 #[.slice p l.length c, .int .i64 lim] w fun e w' => e = .returned (.bool (smQ lim l)) /\ w = w' := by
 obtain ⟨R, hR⟩ : ∃ R, smQ lim l = R := ⟨_, rfl⟩
 rw [hR]
 have HR := Lib.hid hR
 clear hR
 unfold maxLen at hn
 by_cases hb : lim < l.length
 ·have d1 : (lim : Int) < l.length := by omega
  have HT : R = false := by rw [<- HR.out]; unfold smQ; rw [decide_eq_false (by omega)]; rfl
  subst HT
  go_enter Tryd.func20, Tryd.ntmps20
  go_wp2
  go_ret
  exact ⟨rfl, rfl⟩
 ·have d1 : ¬ (lim : Int) < l.length := by omega
  have HT := Lib.hid (show l.all smF = R by rw [<- HR.out]; unfold smQ; rw [decide_eq_true (by omega)]; rfl)
  clear HR
  go_enter Tryd.func20, Tryd.ntmps20
  go_wp2
  go_loopw [5] (fun i wr => ∃ j : Nat, i = .int .i64 (j : Int) /\ j <= l.length /\ wr = w /\ Hid ((l.take j).all smF = true)) (fun i _ => l.length - (intOf i).toNat)
  case atStart => exact ⟨0, rfl, by omega, rfl, Lib.hid rfl⟩
  case round =>
   obtain ⟨j, rfl, hj, rfl, HJ⟩ := hrel
   have j0 : (0 : Int) <= j := by omega
   by_cases hlt : j < l.length
   ·obtain ⟨b, o, q, d, rfl, c0, c1, c2, hS⟩ := RA.out j hlt
    have htk := Lib.hid (qtake hlt)
    have hmem := Lib.hid (qget hlt)
    obtain ⟨f, hf⟩ : ∃ f, l.getD j q0m = f := ⟨_, rfl⟩
    have htk := Lib.hid (by have h := htk.out; rw [hf] at h; exact h)
    have hmem := Lib.hid (by have h := hmem.out; rw [hf] at h; exact h)
    rw [hf] at c0 c1 c2 hS
    have hfl := hv.out _ hmem.out
    clear hf
    obtain ⟨k, xs, eq⟩ := f
    dsimp only at c0 c1 c2 hS hfl
    unfold maxLen at hfl
    have RS := Lib.hid hS
    clear hS
    have j1 : (j : Int) < l.length := by omega
    by_cases h40 : 40 < xs.length
    ·have d2 : (40 : Int) < xs.length := by omega
     have HF : R = false := by
      rw [<- HT.out, List.all_eq_false]
      exact ⟨_, hmem.out, by unfold smF; rw [decide_eq_false (by dsimp only; omega)]; simp⟩
     subst HF
     go_wp2
     go_ret
     exact ⟨rfl, rfl⟩
    ·have d2 : ¬ (40 : Int) < xs.length := by omega
     go_wp2
     go_loopw [6] (fun i w5 => ∃ m : Nat, i = .int .i64 (m : Int) /\ m <= xs.length /\ w5 = wr /\ Hid ((xs.take m).all smN = true)) (fun i _ => xs.length - (intOf i).toNat)
     case atStart => exact ⟨0, rfl, by omega, rfl, Lib.hid rfl⟩
     case round =>
      obtain ⟨m, rfl, hm, rfl, HM⟩ := hrel
      have m0 : (0 : Int) <= m := by omega
      by_cases hlm : m < xs.length
      ·obtain ⟨b', o', rfl, e0, e1⟩ := RS.out m hlm
       have htk2 := Lib.hid (take_stepS hlm)
       have hmem2 := Lib.hid (getD_memS hlm)
       obtain ⟨x, hx⟩ : ∃ x, xs.getD m mo0 = x := ⟨_, rfl⟩
       have htk2 := Lib.hid (by have h := htk2.out; rw [hx] at h; exact h)
       have hmem2 := Lib.hid (by have h := hmem2.out; rw [hx] at h; exact h)
       rw [hx] at e0 e1
       clear hx
       obtain ⟨s, a⟩ := x
       simp only at e0 e1
       have m1 : (m : Int) < xs.length := by omega
       by_cases hs : 100 < s.size
       ·have d3 : (100 : Int) < s.size := by omega
        have HF : R = false := by
         rw [<- HT.out, List.all_eq_false]
         exact ⟨_, hmem.out, by
          unfold smF
          have : xs.all smN = false := by
           rw [List.all_eq_false]
           exact ⟨_, hmem2.out, by unfold smN; simp; omega⟩
          simp [this]⟩
        subst HF
        go_wp2
        go_ret
        exact ⟨rfl, rfl⟩
       ·have d3 : ¬ (100 : Int) < s.size := by omega
        have HM2 : Hid ((xs.take (m + 1)).all smN = true) := Lib.hid (by
         rw [htk2.out, List.all_append, HM.out]
         simp [smN]
         omega)
        clear HM htk2 hmem2
        go_wp2
        go_roundw
        case rel => exact ⟨m + 1, by go_num, by omega, by first | rfl | trivial, HM2⟩
        case measure => simp [intOf]; omega
      ·have m1 : ¬ (m : Int) < xs.length := by omega
       have HJ2 : Hid ((l.take (j + 1)).all smF = true) := Lib.hid (by
        rw [htk.out, List.all_append, HJ.out]
        have h := HM.out
        rw [List.take_of_length_le (by omega)] at h
        simp [smF, h]
        omega)
       clear HJ htk hmem
       go_wp2
       go_roundw
       case rel => exact ⟨j + 1, by go_num, by omega, by first | rfl | trivial, HJ2⟩
       case measure => simp [intOf]; omega
   ·have j1 : ¬ (j : Int) < l.length := by omega
    have HF : R = true := by
     rw [<- HT.out]
     have h := HJ.out
     rw [List.take_of_length_le (by omega)] at h
     exact h
    subst HF
    go_wp2
    go_ret
    exact ⟨rfl, rfl⟩
end Go.Proofs.YtbicmlkjonaccaaDoor.Ln


namespace Go.Proofs.YtbicmlkjonaccaaDoor.Ln
open Go.ChangeShapes Go.WideShapes Go.ChangeAt Go.RowKit
open Go.Proofs.YtbicmlkjonaccaaDoor.Nm
set_option linter.unusedVariables false
set_option linter.unusedSimpArgs false
set_option maxRecDepth 8000

def tgQ (f : Qm) : Int × List Mo × Bool × Int × Int := tgR f.1 f.2.1 f.2.2
/-- What is kept of a constraint. -/
def keepF (f : Qm) : Option Qm := if (tgQ f).2.2.2.2 = 0 /\ (tgQ f).2.2.2.1 = 0 then some ((tgQ f).1, (tgQ f).2.1, (tgQ f).2.2.1) else none
/-- A constraint that holds somewhere, for all that its form tells. -/
def posF (f : Qm) : Bool := (tgQ f).2.2.2.1 != 2
def errF (f : Qm) : Int := (tgQ f).2.2.2.2
/-- The first error, with its place. -/
def firF : List Qm -> Nat -> Nat × Int
 | [], j => (j, 0)
 | f :: r, j => if errF f ≠ 0 then (j, errF f) else firF r (j + 1)
theorem tg_kinds (k : Int) (xs : List Mo) (eq : Bool) : ∃ K ys fq kd er, tgR k xs eq = (K, ys, fq, kd, er) /\ ((kd = 0 /\ er = 0) \/ (kd = 1 /\ er = 0) \/ (kd = 2 /\ er = 0) \/ (kd = 0 /\ er ≠ 0)) := by
 unfold tgR
 split
 ·exact ⟨_, _, _, _, _, rfl, by simp⟩
 ·split
  ·split
   ·exact ⟨_, _, _, _, _, rfl, by simp⟩
   ·exact ⟨_, _, _, _, _, rfl, by simp⟩
  ·split
   ·exact ⟨_, _, _, _, _, rfl, by simp⟩
   ·split
    ·split
     ·rename_i h; exact ⟨_, _, _, _, _, rfl, .inr (.inr (.inr ⟨rfl, h⟩))⟩
     ·exact ⟨_, _, _, _, _, rfl, by simp⟩
    ·exact ⟨_, _, _, _, _, rfl, by simp⟩
/-- An element of a row stands for a constraint. -/
def Std (w : World) (e : E5) (t : Qm) : Prop := e.1 = t.1 /\ e.2.2.1 = t.2.1.length /\ e.2.2.2.2 = t.2.2 /\ SlK w e.2.1 t.2.1
def StdL (w : World) (L : List E5) (ts : List Qm) : Prop := L.length = ts.length /\ ∀ i, i < ts.length -> Std w (L.getD i e50) (ts.getD i q0m)
theorem StdL.on {w w' : World} {L : List E5} {ts : List Qm} (h : StdL w L ts) (k : K59 w w') : StdL w' L ts := ⟨h.1, fun i hi => ⟨(h.2 i hi).1, (h.2 i hi).2.1, (h.2 i hi).2.2.1, (h.2 i hi).2.2.2.on k⟩⟩
theorem StdL.snoc {w : World} {L : List E5} {ts : List Qm} {e : E5} {t : Qm} (h : StdL w L ts) (s : Std w e t) : StdL w (L ++ [e]) (ts ++ [t]) := by
 refine ⟨by simp [h.1], fun i hi => ?_⟩
 simp only [List.length_append, List.length_cons, List.length_nil] at hi
 by_cases c : i < ts.length
 ·rw [List.getD_eq_getElem?_getD, List.getD_eq_getElem?_getD, List.getElem?_append_left (by rw [h.1]; exact c), List.getElem?_append_left c, <- List.getD_eq_getElem?_getD, <- List.getD_eq_getElem?_getD]
  exact h.2 i c
 ·obtain rfl : i = ts.length := by omega
  have e1 : (L ++ [e]).getD ts.length e50 = e := by rw [List.getD_eq_getElem?_getD, <- h.1]; simp
  have e2 : (ts ++ [t]).getD ts.length q0m = t := by rw [List.getD_eq_getElem?_getD]; simp
  rw [e1, e2]
  exact s
theorem rowE_snoc (L : List E5) (e : E5) : rowE (L ++ [e]) = rowE L ++ [.int .i64 e.1, .slice e.2.1 e.2.2.1 e.2.2.2.1, .bool e.2.2.2.2] := by
 unfold rowE; rw [List.flatMap_append]; simp [enc]
/-- What stands behind j constraints. -/
def FSg (l : List Qm) (gt j : Nat) (vl : Value) (L : List E5) (wr : World) : Prop := wr.heap[gt]? = some (.cells #[vl] 30 (0, 0)) /\ wr.heap[gt + 1]? = some (.cells #[.bool ((l.take j).all posF)] 4 (0, 0)) /\ wr.ownsRow (gt + 2) 36 3 vl L.length (rowE L) /\ StdL wr L ((l.take j).filterMap keepF)
theorem FSg.kept {l : List Qm} {gt j : Nat} {vl3 : Value} {L : List E5} {K : Int} {ys : List Mo} {fq : Bool} {q3 : Option Addr} {d3 : Nat} {wr w1 : World} (hj : j < l.length) (hS : StdL wr L ((l.take j).filterMap keepF)) (hT : tgQ (l.getD j q0m) = (K, ys, fq, 0, 0)) (t1 : w1.heap[gt]? = some (.cells #[vl3] 30 (0, 0))) (t2 : w1.heap[gt + 1]? = some (.cells #[.bool ((l.take j).all posF)] 4 (0, 0)))
  (O3 : w1.ownsRow (gt + 2) 36 3 vl3 (L.length + 1) (rowE L ++ [.int .i64 K, .slice q3 ys.length d3, .bool fq])) (SK : SlK w1 q3 ys) (K3 : K59 wr w1) : FSg l gt (j + 1) vl3 (L ++ [(K, q3, ys.length, d3, fq)]) w1 := by
 have hk : keepF (l.getD j q0m) = some (K, ys, fq) := by unfold keepF; rw [hT]; simp
 have hp : posF (l.getD j q0m) = true := by unfold posF; rw [hT]; simp
 refine ⟨t1, ?_, ?_, ?_⟩
 ·rw [qtake hj, List.all_append]; simp only [List.all_cons, hp, List.all_nil, Bool.and_true]; exact t2
 ·rw [rowE_snoc]; simp only [List.length_append, List.length_cons, List.length_nil]; exact O3
 ·rw [qtake hj, List.filterMap_append]
  simp only [List.filterMap_cons, hk, List.filterMap_nil]
  exact (hS.on K3).snoc ⟨rfl, rfl, rfl, SK⟩
theorem FSg.dropped {l : List Qm} {gt j : Nat} {vl : Value} {L : List E5} {K : Int} {ys : List Mo} {fq : Bool} {kd : Int} {wr w1 : World} (hj : j < l.length) (hS : StdL wr L ((l.take j).filterMap keepF)) (hT : tgQ (l.getD j q0m) = (K, ys, fq, kd, 0)) (hkd : kd ≠ 0) (t1 : w1.heap[gt]? = some (.cells #[vl] 30 (0, 0))) (t2 : w1.heap[gt + 1]? = some (.cells #[.bool ((l.take j).all posF && kd != 2)] 4 (0, 0)))
  (O3 : w1.ownsRow (gt + 2) 36 3 vl L.length (rowE L)) (K3 : K59 wr w1) : FSg l gt (j + 1) vl L w1 := by
 have hk : keepF (l.getD j q0m) = none := by unfold keepF; rw [hT]; simp [hkd]
 have hp : posF (l.getD j q0m) = (kd != 2) := by unfold posF; rw [hT]
 refine ⟨t1, ?_, O3, ?_⟩
 ·rw [qtake hj, List.all_append]; simp only [List.all_cons, hp, List.all_nil, Bool.and_true]; exact t2
 ·rw [qtake hj, List.filterMap_append]
  simp only [List.filterMap_cons, hk, List.filterMap_nil, List.append_nil]
  exact hS.on K3
end Go.Proofs.YtbicmlkjonaccaaDoor.Ln


namespace Go.Proofs.YtbicmlkjonaccaaDoor.Ln
open Go.ChangeShapes Go.WideShapes Go.ChangeAt Go.RowKit
open Go.Proofs.YtbicmlkjonaccaaDoor.Nm
set_option linter.unusedVariables false
set_option linter.unusedSimpArgs false
set_option maxRecDepth 8000

/-- A row that starts behind a block stays where only that block is written. -/
theorem own_belowN {w w' : World} {b n : Nat} {vl : Value} {cs : List Value} (h : w.ownsRow (b + 2) 36 3 vl n cs) (hb : ∀ i, i < w.heap.size -> i ≠ b + 1 -> w'.heap[i]? = w.heap[i]?) : w'.ownsRow (b + 2) 36 3 vl n cs := by
 obtain ⟨hl, h0 | ⟨g, cap, cur, hv, hb', hh, r⟩⟩ := h
 ·exact ⟨hl, .inl h0⟩
 ·have hg : g < w.heap.size := by
   rcases Nat.lt_or_ge g w.heap.size with h1 | h1
   ·exact h1
   ·rw [Array.getElem?_eq_none h1] at hh
    cases hh
  exact ⟨hl, .inr ⟨g, cap, cur, hv, hb', by rw [hb g hg (by omega)]; exact hh, r⟩⟩

set_option maxRecDepth 100000 in
set_option maxHeartbeats 8000000 in
/-- The first error of any list; without one: what is collected. -/
theorem fstg (p : Option Addr) (l : List Qm) (c gt : Nat) (vl : Value) (w : World) (hn : l.length <= 1000) (RA : Hid (∀ wz, Below gt w wz -> SlQ wz p l))
  (T : Hid (∀ f ∈ l, ∀ p c w', SlM w' p f.2.1 -> Calls Tryd.prog 28 #[Cv f.1 p f.2.1.length c f.2.2] w' (TR (tgQ f) w')))
  (hS : Hid (FSg l gt 0 vl [] w)) (lt : gt + 1 < w.heap.size) :
  Calls Tryd.prog 56 #[.slice p l.length c, .func (.func 70) #[] #[.pointer (some ⟨gt, 0, none⟩), .pointer (some ⟨gt + 1, 0, none⟩)]] w fun e w' => e = .returned (.tuple #[.int .i64 ((firF l 0).1 : Nat), .int .i64 (firF l 0).2]) /\ Below gt w w' /\ K59 w w' /\ ((firF l 0).2 = 0 -> ∃ vl L, FSg l gt l.length vl L w') := by
 obtain ⟨RES, hRES⟩ : ∃ RES, firF l 0 = RES := ⟨_, rfl⟩
 rw [hRES]
 have HRES := Lib.hid hRES
 obtain ⟨n, hnn⟩ : ∃ n, l.length = n := ⟨_, rfl⟩
 have HN := Lib.hid hnn
 rw [hnn] at hn ⊢
 clear hnn hRES
 go_enter Tryd.func56, Tryd.ntmps56
 go_wp2_with fail
 go_loopw [11] (fun i wr => ∃ (j : Nat), i = .int .i64 j /\ j <= n /\ gt + 1 < wr.heap.size /\ Hid (Below gt w wr) /\ Hid (K59 w wr) /\ Hid (firF (l.drop j) j = RES) /\ Hid (∃ vl L, FSg l gt j vl L wr)) (fun i _ => n - (intOf i).toNat)
 case atStart => exact ⟨0, rfl, Nat.zero_le _, lt, Lib.hid (Below.refl _ _), Lib.hid (fun _ _ h => h), HRES, Lib.hid ⟨vl, [], hS.out⟩⟩
 case round =>
  obtain ⟨j, rfl, hj, lr, hB, hK, hE, hF⟩ := hrel
  have jj : (0 : Int) <= j := by omega
  by_cases hlt : j < n
  ·obtain ⟨b, o, q, d, rfl, c0, c1, c2, hM⟩ := RA.out wr hB.out j (by rw [HN.out]; exact hlt)
   have j2 : (j : Int) < n := by omega
   have hbr : b < wr.heap.size := World.block_lt_of_cell? _ _ c0
   have hjr : j < l.length := by rw [HN.out]; exact hlt
   obtain ⟨vl2, L, ht, hp, hO, hSL⟩ := hF.out
   have TT := Lib.hid (T.out _ (qget hjr))
   have hdr : l.drop j = l.getD j q0m :: l.drop (j + 1) := by
    rw [List.drop_eq_getElem_cons hjr]; simp [List.getD, List.getElem?_eq_getElem hjr]
   have HSL := Lib.hid hSL
   have HLL : Hid (L.length <= 1000) := Lib.hid (by
    have h1 := hSL.1
    have h2 : ((l.take j).filterMap keepF).length <= (l.take j).length := List.length_filterMap_le _ _
    rw [List.length_take] at h2
    omega)
   have hE1 := hE.out
   rw [hdr] at hE1
   unfold firF at hE1
   obtain ⟨K, ys, fq, kd, er, hT, hkd⟩ := tg_kinds (l.getD j q0m).1 (l.getD j q0m).2.1 (l.getD j q0m).2.2
   have HT : Hid (tgQ (l.getD j q0m) = (K, ys, fq, kd, er)) := Lib.hid hT
   have hER : errF (l.getD j q0m) = er := by unfold errF tgQ; rw [hT]
   rw [hER] at hE1
   have TT2 : tgQ (l.getD j q0m) = (K, ys, fq, kd, er) := hT
   rw [TT2] at TT
   clear hT hER TT2
   obtain ⟨f, hf⟩ : ∃ f, l.getD j q0m = f := ⟨_, rfl⟩
   rw [hf] at c0 c1 c2 hM TT
   obtain ⟨k, xs, eqf⟩ := f
   dsimp only at c0 c1 c2 hM TT
   clear hf hdr
   have BA := (Below.refl wr.heap.size wr).alloc (Nat.le_refl _) (Obj.cells #[Value.int .i64 k, Value.slice q xs.length d, Value.bool eqf] 36)
   have ht2 := (BA.block gt (by omega)).trans ht
   have hp2 := (BA.block (gt + 1) lr).trans hp
   have OA := Lib.hid (hO.alloc (Obj.cells #[Value.int .i64 k, Value.slice q xs.length d, Value.bool eqf] 36))
   have OA3 := Lib.hid (hO.alloc (Obj.cells #[Value.int .i64 k, Value.slice q xs.length d, Value.bool eqf] 36))
   have KAh := Lib.hid (K59.below BA : K59 wr (wr.alloc (Obj.cells #[Value.int .i64 k, Value.slice q xs.length d, Value.bool eqf] 36)))
   have BG := Lib.hid (hB.out.alloc (by omega) (Obj.cells #[Value.int .i64 k, Value.slice q xs.length d, Value.bool eqf] 36))
   clear ht hp hSL hF hE
   rcases hkd with ⟨rfl, rfl⟩ | ⟨rfl, rfl⟩ | ⟨rfl, rfl⟩ | ⟨rfl, her⟩
   ·have HN2 : Hid (firF (l.drop (j + 1)) (j + 1) = RES) := Lib.hid (by simpa using hE1)
    clear hE1
    have CL := Lib.hid (ncla eqf fq _ k K q xs ys d gt L.length vl2 (rowE L) _ (by have := HLL.out; omega) (Lib.hid fun w' h => TT.out q d w' h) (Lib.hid (SlM.keep BA hM)) ht2 hp2 OA)
    unfold Cv at CL
    clear ht2 hp2 TT hO OA
    go_wp2_with (go_at_call 70; (with_reducible refine CL.out.mono ?_); rintro e w1 ⟨rfl, vl3, q3, d3, t1, t2, O3, SK, B3, K3⟩; have HF2 := Lib.hid (FSg.kept hjr HSL.out HT.out t1 t2 O3 SK (KAh.out.trans K3)); have HB2 := Lib.hid (BG.out.trans B3); have HK2 := Lib.hid (hK.out.trans (KAh.out.trans K3)); have lr2 : gt + 1 < w1.heap.size := hlt_of t2)
    go_roundw
    case rel => exact ⟨j + 1, by go_num, by omega, lr2, HB2, HK2, HN2, Lib.hid ⟨_, _, HF2.out⟩⟩
    case measure => simp [intOf]; omega
   ·have HN2 : Hid (firF (l.drop (j + 1)) (j + 1) = RES) := Lib.hid (by simpa using hE1)
    clear hE1
    have CL := Lib.hid (nclt eqf fq _ k K q xs ys d gt vl2 _ (Lib.hid fun w' h => TT.out q d w' h) (Lib.hid (SlM.keep BA hM)) ht2 hp2)
    unfold Cv at CL
    clear ht2 hp2 TT hO OA
    go_wp2_with (go_at_call 70; (with_reducible refine CL.out.mono ?_); rintro e w1 ⟨rfl, t1, t2, B3, K3, N3⟩; have O3 := own_belowN OA3.out N3; have HF2 := Lib.hid (FSg.dropped hjr HSL.out HT.out (by decide) t1 (by rw [t2]; simp) O3 (KAh.out.trans K3)); have HB2 := Lib.hid (BG.out.trans (B3.mono (by omega))); have HK2 := Lib.hid (hK.out.trans (KAh.out.trans K3)); have lr2 : gt + 1 < w1.heap.size := hlt_of t2)
    go_roundw
    case rel => exact ⟨j + 1, by go_num, by omega, lr2, HB2, HK2, HN2, Lib.hid ⟨_, _, HF2.out⟩⟩
    case measure => simp [intOf]; omega
   ·have HN2 : Hid (firF (l.drop (j + 1)) (j + 1) = RES) := Lib.hid (by simpa using hE1)
    clear hE1
    have CL := Lib.hid (nclf eqf fq _ k K q xs ys d gt vl2 _ (Lib.hid fun w' h => TT.out q d w' h) (Lib.hid (SlM.keep BA hM)) ht2 hp2)
    unfold Cv at CL
    clear ht2 hp2 TT hO OA
    go_wp2_with (go_at_call 70; (with_reducible refine CL.out.mono ?_); rintro e w1 ⟨rfl, t1, t2, B3, K3, N3⟩; have O3 := own_belowN OA3.out N3; have HF2 := Lib.hid (FSg.dropped hjr HSL.out HT.out (by decide) t1 (by rw [t2]; simp) O3 (KAh.out.trans K3)); have HB2 := Lib.hid (BG.out.trans (B3.mono (by omega))); have HK2 := Lib.hid (hK.out.trans (KAh.out.trans K3)); have lr2 : gt + 1 < w1.heap.size := hlt_of t2)
    go_roundw
    case rel => exact ⟨j + 1, by go_num, by omega, lr2, HB2, HK2, HN2, Lib.hid ⟨_, _, HF2.out⟩⟩
    case measure => simp [intOf]; omega
   ·have HE2 : Hid (RES = (j, er)) := Lib.hid (by rw [if_pos her] at hE1; exact hE1.symm)
    have her2 : (er == 0) = false := by rw [beq_eq_false_iff_ne]; exact her
    clear hE1
    have CL := Lib.hid (ncle eqf fq _ k K q xs ys d gt er her vl2 _ (Lib.hid fun w' h => TT.out q d w' h) (Lib.hid (SlM.keep BA hM)) ht2 hp2)
    unfold Cv at CL
    clear ht2 hp2 TT hO OA
    go_wp2_with (go_at_call 70; (with_reducible refine CL.out.mono ?_); rintro e w1 ⟨rfl, t1, t2, B3, K3, N3⟩; have HB2 := Lib.hid (BG.out.trans (B3.mono (by omega))); have HK2 := Lib.hid (hK.out.trans (KAh.out.trans K3)))
    have hres : RES = (j, er) := HE2.out
    refine bodyPost_ret (v := .tuple #[.int .i64 j, .int .i64 er]) (by simp [results, Tryd.results56, go_sem]) rfl ⟨by rw [hres], HB2.out, HK2.out, fun h => absurd h (by rw [hres]; exact her)⟩
  ·obtain rfl : j = n := by omega
   have hres : RES = (j, 0) := by
    have h := hE.out
    rw [List.drop_of_length_le (by rw [HN.out]; exact Nat.le_refl _)] at h
    exact h.symm
   have HF9 := hF
   have HB9 := hB
   have HK9 := hK
   have HR9 := Lib.hid hres
   clear hres
   go_wp2
   refine bodyPost_ret (v := .tuple #[.int .i64 j, .int .i64 0]) (by simp [results, Tryd.results56, go_sem]) rfl ⟨by rw [HR9.out], HB9.out, HK9.out, fun _ => HF9.out⟩
end Go.Proofs.YtbicmlkjonaccaaDoor.Ln


namespace Go.Proofs.YtbicmlkjonaccaaDoor.Ln
open Go.ChangeShapes Go.WideShapes Go.ChangeAt Go.RowKit
open Go.Proofs.YtbicmlkjonaccaaDoor.Nm
set_option linter.unusedVariables false
set_option linter.unusedSimpArgs false
set_option maxRecDepth 8000

/-- A slice of constraints, as it lies. -/
def SlE (w : World) (b o : Nat) (L : List E5) : Prop := ∀ i, i < L.length -> w.cell? ⟨b, o + i * 3, none⟩ = some (.int .i64 (L.getD i e50).1) /\ w.cell? ⟨b, o + i * 3 + 1, none⟩ = some (.slice (L.getD i e50).2.1 (L.getD i e50).2.2.1 (L.getD i e50).2.2.2.1) /\ w.cell? ⟨b, o + i * 3 + 2, none⟩ = some (.bool (L.getD i e50).2.2.2.2)
theorem SlE.keep {w w' : World} {b o : Nat} {L : List E5} (hb : Below w.heap.size w w') (h : SlE w b o L) : SlE w' b o L := fun i hi => by
 obtain ⟨c0, c1, c2⟩ := h i hi
 have lg := World.block_lt_of_cell? _ _ c0
 exact ⟨Rg.keep hb lg c0, Rg.keep hb lg c1, Rg.keep hb lg c2⟩
/-- The first equation's place. -/
def ixq : List E5 -> Nat -> Int
 | [], _ => -1
 | e :: r, i => if e.2.2.2.2 = true then (i : Int) else ixq r (i + 1)
set_option maxHeartbeats 4000000 in
theorem un1g (k : Int) (p : Option Addr) (n c : Nat) (eq : Bool) (w : World) : Calls Tryd.prog 109 #[.agg #[.int .i64 k, .slice p n c, .bool eq]] w fun e w' => e = .returned (.bool eq) /\ Below w.heap.size w w' := by
 go_enter Tryd.func109, Tryd.ntmps109
 go_wp2_with fail
 go_ret
 exact ⟨rfl, (Below.refl _ _).alloc (Nat.le_refl _) _⟩
set_option maxRecDepth 100000 in
set_option maxHeartbeats 8000000 in
theorem ixN (b o cap : Nat) (L : List E5) (w : World) (hn : L.length <= 100000) (RA : Hid (SlE w b o L)) :
  Calls Tryd.prog 108 #[.slice (some ⟨b, o, none⟩) L.length cap, .func (.func 109) #[] #[]] w fun e w' => e = .returned (.int .i64 (ixq L 0)) /\ Below w.heap.size w w' := by
 obtain ⟨RES, hRES⟩ : ∃ RES, ixq L 0 = RES := ⟨_, rfl⟩
 rw [hRES]
 have HRES := Lib.hid hRES
 obtain ⟨n, hnn⟩ : ∃ n, L.length = n := ⟨_, rfl⟩
 have HN := Lib.hid hnn
 rw [hnn] at hn ⊢
 clear hnn hRES
 go_enter Tryd.func108, Tryd.ntmps108
 go_wp2_with fail
 go_loopw [8] (fun iv wr => ∃ (j : Nat), iv = .int .i64 (j : Int) /\ j <= n /\ Hid (Below w.heap.size w wr) /\ Hid (ixq (L.drop j) j = RES)) (fun iv _ => n - (intOf iv).toNat)
 case atStart => exact ⟨0, rfl, Nat.zero_le _, Lib.hid (Below.refl _ _), HRES⟩
 case round =>
  obtain ⟨j, rfl, hj, hB, hE⟩ := hrel
  have jj : (0 : Int) <= j := by omega
  by_cases hlt : j < n
  ·have hjl : j < L.length := by rw [HN.out]; exact hlt
   have j2 : (j : Int) < n := by omega
   obtain ⟨c0, c1, c2⟩ := (SlE.keep hB.out RA.out) j hjl
   have hdr : L.drop j = L.getD j e50 :: L.drop (j + 1) := by
    rw [List.drop_eq_getElem_cons hjl]; simp [List.getD, List.getElem?_eq_getElem hjl]
   have h := hE.out
   rw [hdr] at h
   unfold ixq at h
   obtain ⟨x, hx⟩ : ∃ x, L.getD j e50 = x := ⟨_, rfl⟩
   rw [hx] at c0 c1 c2 h
   obtain ⟨k, p, m, c, eq⟩ := x
   dsimp only at c0 c1 c2 h
   have UC := Lib.hid (un1g k p m c eq wr)
   clear hx hdr hE hjl
   cases eq with
   | true =>
    have HR : Hid (RES = (j : Int)) := Lib.hid (by simpa using h.symm)
    clear h
    go_wp2_with (go_at_call 109; (with_reducible refine UC.out.mono ?_); rintro e w1 ⟨rfl, hb⟩)
    go_ret
    exact ⟨by rw [HR.out]; rfl, hB.out.trans (hb.mono hB.out.size)⟩
   | false =>
    have HR : Hid (ixq (L.drop (j + 1)) (j + 1) = RES) := Lib.hid (by simpa using h)
    clear h
    go_wp2_with (go_at_call 109; (with_reducible refine UC.out.mono ?_); rintro e w1 ⟨rfl, hb⟩; have HB2 := Lib.hid (hB.out.trans (hb.mono hB.out.size)))
    go_roundw
    case rel => exact ⟨j + 1, by go_num, by omega, HB2, HR⟩
    case measure => simp [intOf]; omega
  ·obtain rfl : j = n := by omega
   have HR : Hid (RES = -1) := Lib.hid (by
    have h := hE.out
    rw [List.drop_of_length_le (by rw [HN.out]; exact Nat.le_refl _)] at h
    exact h.symm)
   go_wp2_with fail
   go_ret
   exact ⟨by rw [HR.out]; rfl, hB.out⟩
end Go.Proofs.YtbicmlkjonaccaaDoor.Ln
