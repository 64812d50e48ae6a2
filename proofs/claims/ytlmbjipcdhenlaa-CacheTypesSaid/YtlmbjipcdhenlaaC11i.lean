/- The cache: the statement on what it keeps. -/
import Derived.Test.YtlmbjipcdhenlaaC7i
import Derived.Test.YtlmbjipcdhenlaaC10i
import Derived.Maps.AppendAt
namespace Go.Proofs.Ytlmbjipcdhenlaa.Ci
open Go.ChangeShapes Go.WideShapes Go.ChangeAt Go.RowKit
open Go.Proofs.Ytlmbjipcdhenlaa.Ca
set_option linter.unusedVariables false
set_option linter.unusedSimpArgs false
theorem nodup_len {l m : List ByteArray} (hn : l.Nodup) (h : ∀ x ∈ l, x ∈ m) : l.length ≤ m.length := by
  induction l generalizing m with
  | nil => simp
  | cons x l ih =>
    rw [List.nodup_cons] at hn
    obtain ⟨m1, m2, rfl⟩ := List.append_of_mem (h x (by simp))
    have := ih (m := m1 ++ m2) hn.2 (fun y hy => by
      have h1 := h y (List.mem_cons_of_mem _ hy)
      rw [List.mem_append, List.mem_cons] at h1
      rw [List.mem_append]
      rcases h1 with h1 | rfl | h1
      · exact .inl h1
      · exact absurd hy hn.1
      · exact .inr h1)
    simp only [List.length_append, List.length_cons] at this ⊢
    omega
/-- The entry s stands behind entries of the names os alone. -/
def Inv (L : List (ByteArray × Int)) (s : ByteArray) (os : List ByteArray) : Prop := ∃ A B, L = A ++ (s, 7) :: B ∧ ∀ x ∈ A, x.1 ∈ os
theorem inv_split {A B : List (ByteArray × Int)} {s k : ByteArray} (hk : k ≠ s) : rml (A ++ (s, 7) :: B) k = rml A k ++ (s, 7) :: rml B k := by
  unfold rml
  rw [List.filter_append, List.filter_cons, decide_eq_false (show ¬ s = k from fun e => hk e.symm), if_pos (by decide)]
theorem inv_put {L : List (ByteArray × Int)} {s k : ByteArray} {v : Int} {os os' : List ByteArray} (h : Inv L s os) (hk : k ≠ s) (ho : ∀ x ∈ os, x ∈ os') (hko : k ∈ os') : Inv ((k, v) :: rml L k) s os' := by
  obtain ⟨A, B, rfl, hA⟩ := h
  refine ⟨(k, v) :: rml A k, rml B k, by rw [inv_split hk]; rfl, fun x hx => ?_⟩
  rcases List.mem_cons.1 hx with rfl | hx
  · exact hko
  · exact ho _ (hA x (List.mem_filter.1 hx).1)
theorem inv_evict {L : List (ByteArray × Int)} {s k : ByteArray} {v : Int} {os os' : List ByteArray} {n : Int} (h : Inv L s os) (hk : k ≠ s) (ho : ∀ x ∈ os, x ∈ os') (hko : k ∈ os') (hn : (L.map (·.1)).Nodup) (hl : (os'.length : Int) < n) (he : n < ((rml L k).length : Int) + 1) : Inv ((k, v) :: rml L k).dropLast s os' := by
  obtain ⟨A, B, rfl, hA⟩ := h
  have hA' : ∀ x ∈ ((k, v) :: rml A k).map (·.1), x ∈ os' := fun x hx => by
    obtain ⟨y, hy, rfl⟩ := List.mem_map.1 hx
    rcases List.mem_cons.1 hy with rfl | hy
    · exact hko
    · exact ho _ (hA y (List.mem_filter.1 hy).1)
  have hnd : (((k, v) :: rml A k).map (·.1)).Nodup := by
    rw [List.map_cons, List.nodup_cons]
    rw [List.map_append] at hn
    exact ⟨rml_keys, rml_nodup (List.nodup_append.1 hn).1⟩
  have hlen := nodup_len hnd hA'
  rw [List.length_map, List.length_cons] at hlen
  rw [inv_split hk] at he ⊢
  rw [List.length_append, List.length_cons] at he
  have hB : rml B k ≠ [] := fun e => by rw [e] at he; simp at he; omega
  refine ⟨(k, v) :: rml A k, (rml B k).dropLast, ?_, fun x hx => hA' _ (List.mem_map_of_mem hx)⟩
  rw [← List.cons_append, List.dropLast_append_of_ne_nil (by simp), List.dropLast_cons_of_ne_nil hB]
theorem inv_get {L : List (ByteArray × Int)} {s : ByteArray} {os : List ByteArray} (h : Inv L s os) (hn : (L.map (·.1)).Nodup) : lkv L s = some 7 := by
  obtain ⟨A, B, rfl, hA⟩ := h
  exact lkv_at (x := (s, 7)) hn (by simp)
theorem own_kp {w w' : World} {base : Nat} {E : TypeId} {sz n : Nat} {v : Value} {xs : List Value} (h : w.ownsRow base E sz v n xs) (hk : ∀ k, v.ownBlock = some k → w'.heap[k]? = w.heap[k]?) : w'.ownsRow base E sz v n xs := by
  refine ⟨h.1, ?_⟩
  rcases h.2 with h2 | ⟨g, cap, cur, rfl, hb, hh, rest⟩
  · exact .inl h2
  · exact .inr ⟨g, cap, cur, rfl, hb, (hk g rfl).trans hh, rest⟩
/-- One Put of another key. -/
def KS (b base : Nat) (n : Int) (nb : Nat) (S : Nat → Prop) (s : ByteArray) (os : List ByteArray) (w : World) (e : Ending) (w' : World) : Prop :=
  Below base w w' ∧ Kp S w w' ∧ ∃ (bv : Bool) (L : List (ByteArray × Int)), e = .returned (.bool bv) ∧ CS w' b base n L 0 0 (nb + 1) S ∧ Inv L s os ∧ (L.length : Int) ≤ n
theorem putK (b base : Nat) (n : Int) (L : List (ByteArray × Int)) (nb : Nat) (S : Nat → Prop) (s k : ByteArray) (v : Int) (os os' : List ByteArray) (w : World) (C : CS w b base n L 0 0 nb S) (hs : k.size ≤ maxLen) (hnb : nb < 900) (hm : n ≤ 1024) (hI : Inv L s os) (hk : k ≠ s) (ho : ∀ x ∈ os, x ∈ os') (hko : k ∈ os') (hl : (os'.length : Int) < n) (hL : (L.length : Int) ≤ n) :
    Calls Try.prog 18 #[.pointer (some ⟨b, 0, none⟩), .string k, .int .i64 v] w (KS b base n nb S s os' w) := by
  refine (putS b base n L 0 0 nb S k v w C hs hnb hm).mono ?_
  have hrl := rml_len L k
  rintro e w' ⟨hb, hkp, ⟨h2, rfl, hC⟩ | ⟨h2, rfl, hC⟩⟩
  · exact ⟨hb, hkp, _, _, rfl, hC, inv_put hI hk ho hko, by rw [List.length_cons]; omega⟩
  · exact ⟨hb, hkp, _, _, rfl, hC, inv_evict hI hk ho hko C.cv.nodup hl h2, by rw [List.length_dropLast, List.length_cons]; omega⟩
set_option maxRecDepth 100000 in
set_option maxHeartbeats 16000000 in
theorem law_keeps (m : Int) (s : ByteArray) (p : Option Addr) (l : List ByteArray) (c : Nat) (w : World) (hm : 0 ≤ m ∧ m ≤ 255) (hs : s.size ≤ maxLen) (hc : l.length ≤ c) (hcm : c ≤ maxLen) (RA : Hid (SlT w p l)) (hx : ∀ z ∈ l, z.size ≤ maxLen) :
    Calls Try.prog 6 #[.int .u8 m, .string s, .slice p l.length c] w fun e w' => e = .returned (.bool true) ∧ Below w.heap.size w w' := by
  have EX := Lib.hid Cs.alive
  have HX := Lib.hid hx
  have hln : l.length ≤ maxLen := Nat.le_trans hc hcm
  unfold maxLen at hln
  obtain ⟨hm0, hm1⟩ := hm
  have r0 : 0 ≤ m % 20 := by omega
  have r1 : m % 20 ≤ 19 := by omega
  have CN := Lib.hid (newV (1 + m % 20) w (by omega) (by omega))
  clear hx hc hcm
  by_cases h60 : 40 < l.length
  · have d60 : (40 : Int) < l.length := by omega
    go_enter Try.func6, Try.ntmps6
    go_wp2_with fail
    refine CN.out.mono ?_
    rintro e w1 ⟨b, rfl, C1, B1⟩
    go_wp2_with fail
    refine (EX.out _).mono ?_
    rintro e w2 ⟨rfl, hb⟩
    go_wp2
    go_ret
    exact ⟨rfl, B1.trans (hb.mono B1.size)⟩
  · have d60 : ¬ (40 : Int) < l.length := by omega
    obtain ⟨i0, hi, hz0, hz1, hz2⟩ := info_parts infoStr
    go_enter Try.func6, Try.ntmps6
    go_wp2_with fail
    refine CN.out.mono ?_
    rintro e w1 ⟨b, rfl, C1, B1⟩
    obtain ⟨n, hn⟩ : ∃ n, 1 + m % 20 = n := ⟨_, rfl⟩
    rw [hn] at C1
    have n1 : 1 ≤ n := by omega
    have n2 : n ≤ 20 := by omega
    have CP := Lib.hid (putS b w.heap.size n [] 0 0 0 _ s 7 w1 (CS.of C1) hs (by decide) (by omega))
    have HN := Lib.hid hn
    clear hn C1
    go_wp2_with fail
    rw [HN.out]
    clear HN CN r0 r1 hm0 hm1
    refine CP.out.mono ?_
    rintro e w2 ⟨hb2, _, ⟨_, rfl, C2⟩ | ⟨h, _, _⟩⟩
    rotate_left
    · exact absurd h (by simp [rml]; omega)
    have K2 := B1.trans hb2
    have C2 : Hid (CS w2 b w.heap.size n [(s, 7)] 0 0 1 (fun k => (Value.slice none 0 0).ownBlock = some k)) := Lib.hid (C2.mono fun k hk => by cases hk)
    clear hb2 B1 CP
    go_wp2_with fail
    go_loopw [10, 11] (fun lv i wr => ∃ (j : Nat) (os : List ByteArray) (L : List (ByteArray × Int)), i = .int .i64 (j : Int) ∧ j ≤ l.length ∧ Below w.heap.size w wr ∧ Hid (CS wr b w.heap.size n L 0 0 (1 + j) (fun k => lv.ownBlock = some k)) ∧ Hid (wr.ownsRow w.heap.size 9 1 lv os.length (os.map Value.string)) ∧ Hid (Inv L s os) ∧ Hid ((os.length : Int) < n ∧ (L.length : Int) ≤ n)) (fun _ i _ => l.length - (intOf i).toNat)
    case atStart => exact ⟨0, [], [(s, 7)], rfl, by omega, K2, C2, Lib.hid (World.ownsRow_nil _ _ _ _), Lib.hid ⟨[], [], rfl, fun x h => by cases h⟩, Lib.hid (by simp; omega)⟩
    case round =>
      obtain ⟨j, os, L, rfl, hj, hB, hC, hO, hI, hL⟩ := hrel
      clear K2 C2
      have j0 : (0 : Int) ≤ j := by omega
      obtain ⟨q9, c9, rfl, hc9, hS9, hq9⟩ := own_slT hO.out
      by_cases hlt : j < l.length
      · obtain ⟨ba, oa, rfl, a0⟩ := SlT.keep hB RA.out j hlt
        have hrs := HX.out (l.getD j ByteArray.empty) (by unfold List.getD; rw [List.getElem?_eq_getElem hlt]; exact List.getElem_mem hlt)
        obtain ⟨k, hv⟩ : ∃ x, l.getD j ByteArray.empty = x := ⟨_, rfl⟩
        rw [hv] at a0 hrs
        clear hv
        have j1 : (j : Int) < l.length := by omega
        have hbaw : ba < w.heap.size := by
          obtain ⟨b', o', e', c'⟩ := RA.out j hlt
          cases e'
          exact lt_cell c'
        have hob := Lib.hid (show os.length ≤ 20 by have := hL.out.1; omega)
        by_cases hks : k = s
        · subst hks
          have C3 := Lib.hid (hC.out.up (Nat.le_succ _))
          clear hC hS9 hq9
          go_wp2
          go_roundw
          case rel => exact ⟨j + 1, os, L, by go_num, by omega, hB, C3, hO, hI, hL⟩
          case measure => simp [intOf]; omega
        · have hv1 : (k.toList == s.toList) = false := by
            rw [Bool.eq_false_iff]
            intro h
            exact hks (bytes_eq (beq_iff_eq.1 h))
          have CH := Lib.hid (has1 q9 os c9 k wr (by have := hob.out; unfold maxLen; omega) (Lib.hid hS9))
          obtain ⟨hv, hhv⟩ : ∃ v, hasB k os = v := ⟨_, rfl⟩
          rw [hhv] at CH
          have HHV := Lib.hid hhv
          have HKS := Lib.hid hks
          clear hhv hks hS9
          cases hv
          case true =>
            have hmem := hasB_yes.1 HHV.out
            have hlo : (os.length : Int) < n := hL.out.1
            have hd : decide (n ≤ (os.length : Int)) = false := decide_eq_false (by omega)
            have hlo2 : ¬ n ≤ (os.length : Int) := by omega
            have CP := Lib.hid (putK b w.heap.size n L (1 + j) _ s k (j : Int) os os wr hC.out hrs (by omega) (by omega) hI.out HKS.out (fun x h => h) hmem hL.out.1 hL.out.2)
            clear hC hmem hq9
            go_wp2_with fail
            refine CH.out.mono ?_
            rintro e w4 ⟨rfl, rfl⟩
            go_wp2_with fail
            refine CP.out.mono ?_
            rintro e w5 ⟨hb5, hkp, bv, L5, rfl, C5, hI5, hL5⟩
            have K5 : Below w.heap.size w w5 := hB.trans hb5
            have O5 := Lib.hid (own_kp hO.out hkp)
            have C5 := Lib.hid C5
            have I5 := Lib.hid hI5
            have LL5 := Lib.hid (show (os.length : Int) < n ∧ (L5.length : Int) ≤ n from ⟨hlo, hL5⟩)
            clear hb5 hkp hI5 hL5 CP hO hlo
            go_wp2
            go_roundw
            case rel => exact ⟨j + 1, os, L5, by go_num, by omega, K5, C5, O5, I5, LL5⟩
            case measure => simp [intOf]; omega
          case false =>
            have hnm := hasB_no.1 HHV.out
            have BA := (Below.refl wr.heap.size wr).alloc (Nat.le_refl _) (Obj.cells #[Value.string k] 9)
            have KA := hB.trans (BA.mono hB.size)
            have OA := Lib.hid (hO.out.alloc (Obj.cells #[Value.string k] 9))
            have CA1 := Lib.hid (hC.out.below BA)
            have aN : (wr.alloc (Obj.cells #[Value.string k] 9)).cell? ⟨wr.heap.size, 0, none⟩ = some (.string k) := by go_cell
            have hKS := KA.size
            have a0A := kpc BA (lt_cell a0) a0
            clear hC hO BA
            go_wp2_with fail
            refine CH.out.mono ?_
            rintro e w4 ⟨rfl, rfl⟩
            go_wp2_with (at_builtin; refine wpList_append_own_at _ rfl _ _ 58 rfl w.heap.size 9 i0 (.string ⟨#[]⟩) 1 16 Try.underlying58 hi hz0 hz1 hz2 rfl (by decide) _ _ _ rfl OA.out ⟨wr.heap.size, 0, none⟩ 1 1 [.string k] rfl rfl ?_ ?_ ?_ ?_ ?_ ?_)
            · intro q' x' hx'
              rcases q' with _ | q'
              · cases hx'; exact aN
              · simp at hx'
            · intro x' hx'
              simp at hx'
              subst hx'
              rfl
            · have := hob.out; unfold maxLen; omega
            · have := hob.out; omega
            · exact hKS
            intro v' w5 hown' hgrow _ hat
            have hgs := hgrow.size
            have C5 : CS w5 b w.heap.size n L 0 0 (1 + j) (fun k => v'.ownBlock = some k) := by
              refine (CA1.out.other (w' := w5) (fun x hx hnS => hgrow.block x hx (fun e => hnS (.inl e.symm))) hgs).mono ?_
              intro x hx
              rcases hat with h | h
              · rw [h] at hx; exact .inl (.inl hx)
              · rw [h] at hx
                cases hx
                exact .inr ⟨by simp, by have := (hown'.lt _ h).2; exact this⟩
            have hown2 : w5.ownsRow w.heap.size 9 1 v' (os ++ [k]).length ((os ++ [k]).map Value.string) := by rw [List.length_append, List.map_append]; exact hown'
            have K5 := KA.grown hgrow KA.size (fun q' hq' => (OA.out.lt q' hq').1)
            obtain ⟨q5, c5, rfl, hc5, hS5, hq5⟩ := own_slT hown2
            have b0 := kpc (base := w.heap.size) ((hB.trans ((Below.refl wr.heap.size wr).alloc (Nat.le_refl _) (Obj.cells #[Value.string k] 9) |>.mono hB.size)).grown hgrow KA.size (fun q' hq' => (OA.out.lt q' hq').1)) hbaw (show w.cell? ⟨ba, oa + j, none⟩ = some (.string k) from by
              obtain ⟨b', o', e', c'⟩ := RA.out j hlt
              cases e'
              have h9 := kpc hB hbaw c'
              rw [h9] at a0
              rw [c']
              exact a0)
            have C5 := Lib.hid C5
            have O5 := Lib.hid hown2
            clear hown' hgrow hat CA1 OA aN a0A KA hS5 hq5 hown2 hKS hgs hq9 a0
            obtain ⟨os5, hos5⟩ : ∃ x, os ++ [k] = x := ⟨_, rfl⟩
            have HM := Lib.hid (show (∀ x ∈ os, x ∈ os5) ∧ k ∈ os5 from ⟨fun x hx => by rw [← hos5]; simp [hx], by rw [← hos5]; simp⟩)
            have HLN := Lib.hid (show os5.length = os.length + 1 by rw [← hos5]; simp)
            have hos5l : os5.length ≤ 21 := by have := hob.out; have := HLN.out; omega
            rw [hos5] at O5 hc5 C5
            rw [hos5]
            clear hos5
            by_cases hge : n ≤ (os5.length : Int)
            · have hd : decide (n ≤ (os5.length : Int)) = true := decide_eq_true hge
              have CG := Lib.hid (getS b w.heap.size n L 0 0 (1 + j) _ s w5 C5.out hs (by omega))
              have HG := Lib.hid (inv_get hI.out C5.out.cv.nodup)
              clear C5 O5 hc5
              go_wp2_with fail
              refine CG.out.mono ?_
              rintro e w6 ⟨hb6, _, ⟨h, _, _⟩ | ⟨v6, hv6, rfl, _⟩⟩
              · rw [HG.out] at h; cases h
              rw [HG.out] at hv6
              cases hv6
              have K6 : Below w.heap.size w w6 := K5.trans hb6
              clear hb6 CG
              go_wp2_with fail
              refine (EX.out _).mono ?_
              rintro e w7 ⟨rfl, hb⟩
              go_wp2
              go_ret
              exact ⟨rfl, K6.trans (hb.mono K6.size)⟩
            · have hd : decide (n ≤ (os5.length : Int)) = false := decide_eq_false hge
              have CP := Lib.hid (putK b w.heap.size n L (1 + j) _ s k (j : Int) os os5 w5 C5.out hrs (by omega) (by omega) hI.out HKS.out HM.out.1 HM.out.2 (by omega) hL.out.2)
              have hlo : (os5.length : Int) < n := by omega
              clear C5 hc5
              go_wp2_with fail
              refine CP.out.mono ?_
              rintro e w6 ⟨hb6, hkp, bv, L5, rfl, C6, hI6, hL6⟩
              have K6 : Below w.heap.size w w6 := K5.trans hb6
              have O6 := Lib.hid (own_kp O5.out hkp)
              have C6 := Lib.hid C6
              have I6 := Lib.hid hI6
              have LL6 := Lib.hid (show (os5.length : Int) < n ∧ (L5.length : Int) ≤ n from ⟨hlo, hL6⟩)
              clear hb6 hkp hI6 hL6 CP hlo
              go_wp2
              go_roundw
              case rel => exact ⟨j + 1, os5, L5, by go_num, by omega, K6, C6, O6, I6, LL6⟩
              case measure => simp [intOf]; omega
      · have j1 : ¬ (j : Int) < l.length := by omega
        have CG := Lib.hid (getS b w.heap.size n L 0 0 (1 + j) _ s wr hC.out hs (by omega))
        have HG := Lib.hid (inv_get hI.out hC.out.cv.nodup)
        clear hC hS9 hq9
        go_wp2_with fail
        refine CG.out.mono ?_
        rintro e w6 ⟨hb6, _, ⟨h, _, _⟩ | ⟨v6, hv6, rfl, _⟩⟩
        · rw [HG.out] at h; cases h
        rw [HG.out] at hv6
        cases hv6
        have K6 : Below w.heap.size w w6 := hB.trans hb6
        clear hb6 CG
        go_wp2_with fail
        refine (EX.out _).mono ?_
        rintro e w7 ⟨rfl, hb⟩
        go_wp2
        go_ret
        exact ⟨rfl, K6.trans (hb.mono K6.size)⟩
end Go.Proofs.Ytlmbjipcdhenlaa.Ci
