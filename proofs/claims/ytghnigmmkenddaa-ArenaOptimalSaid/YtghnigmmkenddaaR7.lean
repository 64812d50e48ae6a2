/- The orders of the reference. -/
import Derived.Test.YtghnigmmkenddaaR5
import Derived.Test.YtghnigmmkenddaaC7
import Derived.Deep.Cut
namespace Go.Proofs.Ytghnigmmkenddaa.Ar
open Go.ChangeShapes Go.WideShapes Go.ChangeAt Go.RowKit
open Go.Proofs.Ytghnigmmkenddaa.Lv Go.Proofs.Ytghnigmmkenddaa.Nm
set_option linter.unusedVariables false
set_option linter.unusedSimpArgs false

theorem Le.join {f : List Nat → Int} {pre t : List Nat} {b b1 : Int} (h : Le f pre t (-1) b1) (hb : -1 ≤ b) : Le f pre t b (if b < 0 ∨ b1 < b then b1 else b) := by
  obtain ⟨h1, h2, h3⟩ := h
  have h0 := (h1 t (List.Perm.refl _)).1
  by_cases c : b < 0 ∨ b1 < b
  · rw [if_pos c]
    refine ⟨h1, ?_, fun hb0 => by omega⟩
    rcases h2 with e | ⟨s, hs, e⟩
    · omega
    · exact .inr ⟨s, hs, e⟩
  · rw [if_neg c]
    refine ⟨fun s hs => ?_, .inl rfl, fun _ => Int.le_refl _⟩
    have := h1 s hs
    omega
/-- The places that are not used yet. -/
def rst (n : Nat) (ks : List Nat) : List Nat := (List.range n).filter fun i => !ks.contains i
def cnu (i : Nat) (ks : List Nat) : Nat := ((List.range i).filter fun j => !ks.contains j).length
theorem rst_nodup (n : Nat) (ks : List Nat) : (rst n ks).Nodup := List.Pairwise.filter _ List.nodup_range
theorem rst_mem {n i : Nat} {ks : List Nat} : i ∈ rst n ks ↔ i < n ∧ i ∉ ks := by
  unfold rst
  rw [List.mem_filter, List.mem_range]
  simp
theorem rst_perm {n : Nat} {ks : List Nat} (hn : ks.Nodup) (hk : ∀ k ∈ ks, k < n) : (ks ++ rst n ks).Perm (List.range n) := by
  refine (List.perm_ext_iff_of_nodup ?_ List.nodup_range).2 fun a => ?_
  · refine List.nodup_append.2 ⟨hn, rst_nodup _ _, fun a ha b hb e => ?_⟩
    subst e
    exact (rst_mem.1 hb).2 ha
  · rw [List.mem_append, List.mem_range]
    constructor
    · rintro (h | h)
      · exact hk a h
      · exact (rst_mem.1 h).1
    · intro h
      by_cases h2 : a ∈ ks
      · exact .inl h2
      · exact .inr (rst_mem.2 ⟨h, h2⟩)
theorem rst_len {n : Nat} {ks : List Nat} (hn : ks.Nodup) (hk : ∀ k ∈ ks, k < n) : ks.length + (rst n ks).length = n := by
  have h := (rst_perm hn hk).length_eq
  rw [List.length_append, List.length_range] at h
  exact h
theorem range_split {n i : Nat} (h : i < n) : List.range n = List.range i ++ i :: (List.range n).drop (i + 1) := by
  have h1 : (List.range n).take i = List.range i := by rw [List.take_range]; congr 1; omega
  have h2 : (List.range n).drop i = i :: (List.range n).drop (i + 1) := by
    rw [List.drop_eq_getElem_cons (by simpa using h)]
    simp
  conv => lhs; rw [← List.take_append_drop i (List.range n), h1, h2]
theorem cnu_snoc (i : Nat) (ks : List Nat) : cnu (i + 1) ks = cnu i ks + if i ∈ ks then 0 else 1 := by
  unfold cnu
  rw [List.range_succ, List.filter_append, List.length_append]
  by_cases h : i ∈ ks
  · rw [if_pos h, List.filter_cons_of_neg (by simpa using h)]; rfl
  · rw [if_neg h, List.filter_cons_of_pos (by simpa using h)]; rfl
theorem rst_at {n i : Nat} {ks : List Nat} (h : i < n) (hi : i ∉ ks) : (rst n ks)[cnu i ks]? = some i ∧ rst n (ks ++ [i]) = (rst n ks).eraseIdx (cnu i ks) := by
  have e : rst n ks = ((List.range i).filter fun j => !ks.contains j) ++ i :: ((List.range n).drop (i + 1)).filter fun j => !ks.contains j := by
    unfold rst
    conv => lhs; rw [range_split h]
    rw [List.filter_append, List.filter_cons_of_pos (by simpa using hi)]
  have hl : ((List.range i).filter fun j => !ks.contains j).length = cnu i ks := rfl
  constructor
  · rw [e, List.getElem?_append_right (by rw [hl]; exact Nat.le_refl _), hl, Nat.sub_self]; rfl
  · rw [e, List.eraseIdx_append_of_length_le (by rw [hl]; exact Nat.le_refl _), hl, Nat.sub_self, List.eraseIdx_cons_zero]
    unfold rst
    conv => lhs; rw [range_split h]
    rw [List.filter_append, List.filter_cons_of_neg (by simp)]
    congr 1
    · refine List.filter_congr fun j hj => ?_
      have hj2 := List.mem_range.1 hj
      have hne : j ≠ i := by omega
      simp [hne]
    · refine List.filter_congr fun j hj => ?_
      obtain ⟨t, ht, hj2⟩ := List.mem_iff_getElem.1 hj
      rw [List.getElem_drop, List.getElem_range] at hj2
      have hne : j ≠ i := by omega
      simp [hne]
theorem run_append_of_nil {P : Program} {w : World} (base : Nat) (t ty e : TypeId) (i : TypeInfo) (size : Nat) (ht : P.underlying t = some (.slice e)) (hi : P.info? e = some i)
    (v : Value) (n : Nat) (xs : List Value) (hown : w.ownsRow base e size v n xs) (c : Nat) : (Builtin.append_ #[t, t] ty #[v, .slice none 0 c]).run P w = .ok v w := by
  rcases hown.2 with ⟨rfl, rfl⟩ | ⟨g, cap, cur, rfl, _, _, hnc, _⟩
  · simp [Builtin.append_, run_underlying ht, sizeOf, typeInfo, hi, Builtin.lenOf, Builtin.firstCells]
  · simp [Builtin.append_, run_underlying ht, sizeOf, typeInfo, hi, Builtin.lenOf, Builtin.firstCells, hnc, storeCells]
/-- append of a slice of places to a row of the call's own. -/
theorem wpList_append_ns {P : Program} (w : World) {ops : Array Oper} {rest : List Oper} {o : Oper} {a : Act} {Q : Exit → Act → World → Prop} (hgd : o.guard = none) (s x : Operand) (t : TypeId)
    (ho : o.op = .call { callee := .builtin .append, args := #[s, x], argTypes := #[t, t] })
    (base : Nat) (e : TypeId) (i : TypeInfo) (z : Value) (bytes : Nat) (ht : P.underlying t = some (.slice e)) (hi : P.info? e = some i) (hz : i.zero = some z)
    (hsize : i.size = 1) (hby : i.bytes = bytes) (hzs : z.cells.size = 1)
    (v : Value) (n : Nat) (xs : List Value) (hs : a.eval s = v) (hown : w.ownsRow base e 1 v n xs)
    (A : Option Addr) (ks : List Nat) (m c : Nat) (hm : ks.length = m) (hx : a.eval x = .slice A m c) (hr : SlN w A ks)
    (h63 : n + m ≤ maxLen) (hbytes : (n + m) * bytes ≤ 140737488355328) (hbase : base ≤ w.heap.size)
    (h : ∀ v' w', w'.ownsRow base e 1 v' (n + m) (xs ++ rowE (kI ks)) → w.grownBy w' v.ownBlock → wpList P ops Q rest (a.put o.dst v') w') : wpList P ops Q (o :: rest) a w := by
  subst hm
  by_cases he : ks = []
  · subst he
    rcases A with _ | ad
    · refine wpList_plain hgd fun K hK => ?_
      have hrn := run_append_of_nil (w := w) base t o.type e i 1 ht hi v n xs hown c
      unfold Oper.wp execOp
      simp only [ho, resolve, invoke, builtin, Sem.run_bind, Sem.run_pure, Result.andThen_ok, List.map_toArray, List.map_cons, List.map_nil, hs, hx, List.length_nil, hrn]
      exact hK _ _ (h v w (by simpa [rowE, kI] using hown) ⟨rfl, rfl, rfl, Nat.le_refl _, fun _ _ _ => rfl⟩)
    · exact wpList_append_own w hgd s x t ho base e i z 1 bytes ht hi hz hsize hby hzs (by decide) v n xs hs hown ad 0 c [] hx rfl (fun j u hj => by simp at hj) (fun u hu => by simp at hu) h63 hbytes hbase (fun v' w' h1 h2 _ => h v' w' h1 h2)
  · obtain ⟨b, o', rfl, hc0⟩ := hr 0 (List.length_pos_iff.2 he)
    refine wpList_append_own w hgd s x t ho base e i z 1 bytes ht hi hz hsize hby hzs (by decide) v n xs hs hown ⟨b, o', none⟩ ks.length c (rowE (kI ks)) hx (by rw [rowE_len, kI_len, Nat.mul_one]) (fun j u hj => ?_) (fun u hu => ?_) h63 hbytes hbase (fun v' w' h1 h2 _ => h v' w' h1 h2)
    · have hjl : j < ks.length := by
        have := (List.getElem?_eq_some_iff.1 hj).1
        rw [rowE_len, kI_len] at this
        exact this
      rw [rowE_get _ j (by rw [kI_len]; exact hjl), kI_get hjl] at hj
      cases hj
      obtain ⟨b2, o2, e2, hc⟩ := hr j hjl
      cases e2
      have ea : (⟨b, o', none⟩ : Addr).add j = ⟨b, o' + j, none⟩ := by
        unfold Addr.add
        split
        · simp [*]
        · rfl
      rw [ea]
      exact hc
    · obtain ⟨y, _, rfl⟩ := List.mem_map.1 hu
      rfl
def OrW2 (xs : List Lf) (n : Nat) (ks : List Nat) (e : Ending) : Prop := ∃ b, e = .returned (.int .i64 b) ∧ 0 ≤ b ∧ b ≤ 245760 ∧ Le (ffz xs) ks (rst n ks) (-1) b
set_option maxRecDepth 100000 in
set_option maxHeartbeats 8000000 in
/-- The orders that begin with some places. -/
theorem ordersC (p : Option Addr) (xs : List Lf) (c n : Nat) (HN : Hid (xs.length = n)) (hn : n ≤ 7) (HZ : Hid (∀ i, i < n → 1 ≤ (xs.getD i lf0).2.2.2 ∧ (xs.getD i lf0).2.2.2 ≤ 4096)) :
    ∀ (d m : Nat) (q : Option Addr) (ks : List Nat) (cq : Nat) (w : World), m + d = n → Hid (ks.length = m ∧ ks.Nodup ∧ ∀ k ∈ ks, k < n) → Hid (SlL w p xs) → Hid (SlN w q ks) →
      Calls Try.prog 31 #[.slice p n c, .slice q m cq] w fun e w' => OrW2 xs n ks e ∧ Below w.heap.size w w' := by
  intro d
  induction d with
  | zero =>
    intro m q ks cq w hd HK RA RK
    obtain rfl : m = n := by omega
    have FC := Lib.hid (fitC p q xs c m m cq ks w HN (by omega) RA HZ HK (Nat.le_refl _) RK)
    have FB := Lib.hid (ffG_bd xs (fun i hi => HZ.out i (by rw [← HN.out]; exact hi)) ks [] (List.replicate m st0) 0 0 (fun k hk => by rw [HN.out]; exact HK.out.2.2 k hk) (rep_bd _) (Int.le_refl _) (Int.le_refl _) (Int.le_refl _))
    obtain ⟨Z, hZ⟩ : ∃ Z, (ffG xs [] ks (List.replicate m st0) 0).2 = Z := ⟨_, rfl⟩
    have z0 : 0 ≤ Z := by have h := FB.out.1; rw [hZ] at h; exact h
    have z1 : Z ≤ 245760 := by have h := FB.out.2.1; rw [hZ, HK.out.1] at h; omega
    have HL : Hid (Le (ffz xs) ks (rst m ks) (-1) Z) := Lib.hid (by
      have hr : rst m ks = [] := by
        have h := rst_len HK.out.2.1 HK.out.2.2
        rw [HK.out.1] at h
        exact List.length_eq_zero_iff.1 (by omega)
      have h := Le.one (ffz_nonneg xs) (pre := ks) (b := -1)
      rw [if_pos (.inl (by decide))] at h
      rw [hr]
      have e : ffz xs ks = Z := by unfold ffz; rw [HN.out]; exact hZ
      rw [e] at h
      exact h)
    have HZ9 := Lib.hid hZ
    clear hZ FB
    go_enter Try.func31, Try.ntmps31
    go_wp2_with (go_at_call 24; (with_reducible refine FC.out.mono ?_); rintro e w1 ⟨v, A, rfl, B1, O1, _⟩; rw [HZ9.out]; have HB1 := Lib.hid B1; clear B1 O1)
    go_ret
    exact ⟨⟨Z, rfl, z0, z1, HL.out⟩, HB1.out⟩
  | succ d ih =>
    intro m q ks cq w hd HK RA RK
    have IH := Lib.hid ih
    clear ih
    have hmn : m < n := by omega
    have e0 : ((m : Int) == (n : Int)) = false := by rw [beq_eq_false_iff_ne]; omega
    obtain ⟨i0, hi, hz0, hz1, hz2⟩ := info_parts info3
    have HI3 := Lib.hid (And.intro hi (And.intro hz0 (And.intro hz1 hz2)))
    clear hi hz0 hz1 hz2
    go_enter Try.func31, Try.ntmps31
    go_wp2_with fail
    go_loopw [8, 9] (fun bv iv wr => ∃ (i : Nat) (b : Int), iv = .int .i64 (i : Int) ∧ bv = .int .i64 b ∧ i ≤ n ∧ -1 ≤ b ∧ b ≤ 245760 ∧ Hid (LeK (ffz xs) ks (rst n ks) (cnu i ks) (-1) b) ∧ Hid (Below w.heap.size w wr)) (fun _ iv _ => n - (intOf iv).toNat)
    case atStart => exact ⟨0, -1, rfl, rfl, Nat.zero_le _, by decide, by decide, Lib.hid (LeK.start _ _ _ _), Lib.hid (Below.refl _ _)⟩
    case round =>
      obtain ⟨i, b, rfl, rfl, hin, b0, b1, HL, hB⟩ := hrel
      obtain ⟨w0, hw0⟩ : ∃ w0, w0 = wr := ⟨_, rfl⟩
      subst hw0
      by_cases hlt : i < n
      case neg =>
        obtain rfl : i = n := by omega
        have i1 : ¬ (i : Int) < i := by omega
        have hlen := rst_len HK.out.2.1 HK.out.2.2
        have HF : Hid (Le (ffz xs) ks (rst i ks) (-1) b) := Lib.hid (LeK.all (fun e => by rw [e, HK.out.1] at hlen; simp at hlen; omega) HL.out)
        have hb0 := (HF.out.1 _ (List.Perm.refl _)).1
        go_wp2_with fail
        go_ret
        exact ⟨⟨b, rfl, hb0, b1, HF.out⟩, hB.out⟩
      have i0' : (0 : Int) ≤ i := by omega
      have i1 : (i : Int) < n := by omega
      go_wp2_with fail
      go_loopw [10, 11] (fun uv jv wr => ∃ (j : Nat) (u : Bool), jv = .int .i64 (j : Int) ∧ uv = .bool u ∧ j ≤ m ∧ Hid (u = true ↔ i ∈ ks.take j) ∧ Hid (Below w.heap.size w wr)) (fun _ jv _ => m - (intOf jv).toNat)
      case atStart => exact ⟨0, false, rfl, rfl, Nat.zero_le _, Lib.hid ⟨fun h => (by cases h), fun h => (by simp at h)⟩, hB⟩
      case round =>
        clear hB
        obtain ⟨j, u, rfl, rfl, hjm, HU, hB⟩ := hrel
        obtain ⟨w1, hw1⟩ : ∃ w1, w1 = wr := ⟨_, rfl⟩
        subst hw1
        by_cases hlj : j < m
        · have hjs : j < ks.length := by rw [HK.out.1]; exact hlj
          obtain ⟨bq, oq, rfl, cj⟩ := RK.out j hjs
          have cj := kpb hB.out (cl_lt cj) cj
          have HTS := Lib.hid (take_snoc hjs)
          obtain ⟨k, hk⟩ : ∃ k, ks.getD j 0 = k := ⟨_, rfl⟩
          rw [hk] at cj HTS
          have j0 : (0 : Int) ≤ j := by omega
          have j1 : (j : Int) < m := by omega
          clear hk
          cases u
          · by_cases he : k = i
            · subst he
              have HU2 : Hid (true = true ↔ k ∈ ks.take (j + 1)) := Lib.hid ⟨fun _ => by rw [HTS.out]; exact List.mem_append_right _ (by simp), fun _ => rfl⟩
              go_wp2_with fail
              go_roundw
              case rel => exact ⟨j + 1, true, by go_num, rfl, by omega, (Lib.hid (by first | exact HU2.out | simpa using HU2.out)), hB⟩
              case measure => (simp [intOf] <;> omega)
            · have he1 : ((k : Int) == (i : Int)) = false := by rw [beq_eq_false_iff_ne]; omega
              have HU2 : Hid (false = true ↔ i ∈ ks.take (j + 1)) := Lib.hid ⟨fun h => (by cases h), fun h => by
                rw [HTS.out] at h
                rcases List.mem_append.1 h with h | h
                · exact HU.out.2 h
                · rw [List.mem_singleton] at h; exact absurd h.symm he⟩
              clear he
              go_wp2_with fail
              go_roundw
              case rel => exact ⟨j + 1, false, by go_num, rfl, by omega, (Lib.hid (by first | exact HU2.out | simpa using HU2.out)), hB⟩
              case measure => (simp [intOf] <;> omega)
          · have HU2 : Hid (true = true ↔ i ∈ ks.take (j + 1)) := Lib.hid ⟨fun _ => by rw [HTS.out]; exact List.mem_append_left _ (HU.out.1 rfl), fun _ => rfl⟩
            go_wp2_with fail
            go_roundw
            case rel => exact ⟨j + 1, true, by go_num, rfl, by omega, (Lib.hid (by first | exact HU2.out | simpa using HU2.out)), hB⟩
            case measure => (simp [intOf] <;> omega)
        obtain rfl : j = m := by omega
        have j1 : ¬ (j : Int) < j := by omega
        have hTK : ks.take j = ks := List.take_of_length_le (by rw [HK.out.1]; exact Nat.le_refl _)
        have HU2 : Hid (u = true ↔ i ∈ ks) := Lib.hid (by have h := HU.out; rw [hTK] at h; exact h)
        clear hTK HU
        cases u
        case true =>
          have hmem : i ∈ ks := HU2.out.1 rfl
          have HLN : Hid (LeK (ffz xs) ks (rst n ks) (cnu (i + 1) ks) (-1) b) := Lib.hid (by rw [cnu_snoc, if_pos hmem]; exact HL.out)
          clear hmem
          go_wp2_with fail
          go_roundw
          case rel => exact ⟨i + 1, b, by go_num, rfl, by omega, b0, b1, HLN, hB⟩
          case measure => (simp [intOf] <;> omega)
        have hni : i ∉ ks := fun h => by have := HU2.out.2 h; cases this
        have HNI := Lib.hid hni
        have HRA := Lib.hid (rst_at hlt hni)
        have HKN : Hid ((ks ++ [i]).length = j + 1 ∧ (ks ++ [i]).Nodup ∧ ∀ k ∈ ks ++ [i], k < n) := Lib.hid ⟨by rw [List.length_append, HK.out.1]; rfl, List.nodup_append.2 ⟨HK.out.2.1, by simp, fun a ha b hb e => by rw [List.mem_singleton] at hb; subst hb; subst e; exact HNI.out ha⟩, fun k hk => by
          rcases List.mem_append.1 hk with h | h
          · exact HK.out.2.2 k h
          · rw [List.mem_singleton] at h; omega⟩
        have hs1 := hB.out.size
        have SN1 := Lib.hid (RK.out.keep hB.out)
        obtain ⟨hi, hz0, hz1, hz2⟩ := HI3.out
        clear hni HU2
        go_upto_region 18 with (at_builtin; refine wpList_append_ns _ rfl _ _ 43 rfl w1.heap.size 3 i0 (.int .i64 0) 8 Try.underlying43 hi hz0 hz1 hz2 rfl (.slice none 0 0) 0 [] rfl (World.ownsRow_nil _ _ _ _) q ks j cq HK.out.1 rfl SN1.out (by unfold maxLen; omega) (by omega) (Nat.le_refl _) ?_; intro v2 w2 hown2 hg2; obtain ⟨q2, c2, rfl⟩ := own_slice hown2; have HO2 := Lib.hid hown2; have HB2 : Hid (Below w1.heap.size w1 w2) := Lib.hid (Below.grown (Below.refl _ _) hg2 (Nat.le_refl _) (fun j hj => by cases hj)); clear hown2 hg2)
        have O2 := HO2.out
        rw [Nat.zero_add, List.nil_append] at O2
        try rw [Nat.zero_add]
        have hs2 := HB2.out.size
        have OA := Lib.hid (O2.alloc (Obj.cells #[.int .i64 (i : Int)] 3))
        have a0 : (w2.alloc (Obj.cells #[.int .i64 (i : Int)] 3)).cell? ⟨w2.heap.size, 0, none⟩ = some (.int .i64 (i : Int)) := by go_cell
        have BA : Hid (Below w1.heap.size w1 (w2.alloc (Obj.cells #[.int .i64 (i : Int)] 3))) := Lib.hid (HB2.out.alloc hs2 _)
        clear O2
        go_upto_region 19 with (at_builtin; refine wpList_append_own _ rfl _ _ 43 rfl w1.heap.size 3 i0 (.int .i64 0) 1 8 Try.underlying43 hi hz0 hz1 hz2 rfl (by decide) _ _ _ rfl OA.out ⟨w2.heap.size, 0, none⟩ 1 1 [.int .i64 (i : Int)] rfl rfl ?_ ?_ ?_ ?_ ?_ ?_)
        any_goals first | rfl | (intro q' x' hx'; rcases q' with _ | q'; exact (by cases hx'; exact a0); exact (by simp at hx')) | (intro x' hx'; simp at hx'; subst hx'; rfl) | (unfold maxLen; omega) | omega | (have := BA.out.size; exact this)
        intro v3 w3 hown3 hg3 _
        have hown4 : Hid (w3.ownsRow w1.heap.size 3 1 v3 (j + 1) (rowE (kI (ks ++ [i])))) := Lib.hid (by
          have e : rowE (kI (ks ++ [i])) = rowE (kI ks) ++ [.int .i64 (i : Int)] := by unfold rowE kI; simp
          rw [e]; exact hown3)
        have K3 := Lib.hid (BA.out.grown hg3 (by have := BA.out.size; exact this) (fun q' hq' => (OA.out.lt q' hq').1))
        rcases hown4.out.2 with ⟨_, h0⟩ | ⟨g, cap, cur, rfl, _⟩
        · omega
        have SN3 : Hid (SlN w3 (some ⟨g, 0, none⟩) (ks ++ [i])) := Lib.hid fun t ht => by
          have hl := HKN.out.1
          have h := (hown4.out.cellAt t (by omega)).trans (rowE_get _ t (by rw [kI_len]; exact ht))
          rw [kI_get ht] at h
          exact ⟨g, 0, rfl, by rw [Nat.zero_add]; exact h⟩
        have HB3 : Hid (Below w.heap.size w w3) := Lib.hid (hB.out.trans (K3.out.mono hs1))
        have HC := Lib.hid (IH.out (j + 1) (some ⟨g, 0, none⟩) (ks ++ [i]) cap w3 (by omega) HKN (Lib.hid (RA.out.keep HB3.out)) SN3)
        have hs3 := HB3.out.size
        clear hown3 hg3 OA a0 BA hi hz0 hz1 hz2 hown4 SN1 HO2
        go_upto_region 20 with (go_at_call 31; (with_reducible refine HC.out.mono ?_); rintro e w4 ⟨⟨b2, rfl, hb20, hb21, hle⟩, B4⟩; have HLE := Lib.hid hle; have HB4 := Lib.hid (HB3.out.trans (B4.mono hs3)); clear hle B4)
        have HJ := Lib.hid (Le.join HLE.out (b := b) b0)
        have HLN : Hid (LeK (ffz xs) ks (rst n ks) (cnu (i + 1) ks) (-1) (if b < 0 ∨ b2 < b then b2 else b)) := Lib.hid (by
          rw [cnu_snoc, if_neg HNI.out]
          have h := HJ.out
          rw [HRA.out.2] at h
          exact LeK.next (ffz_nonneg xs) HL.out HRA.out.1 (List.Perm.refl _) h)
        clear HJ
        by_cases k1 : b < 0
        · have HLM : Hid (LeK (ffz xs) ks (rst n ks) (cnu (i + 1) ks) (-1) b2) := Lib.hid (by have h := HLN.out; rw [if_pos (.inl k1)] at h; exact h)
          clear HLN
          go_wp2_with fail
          go_roundw
          case rel => exact ⟨i + 1, b2, by go_num, rfl, by omega, by omega, hb21, HLM, HB4⟩
          case measure => (simp [intOf] <;> omega)
        · by_cases k2 : b2 < b
          · have HLM : Hid (LeK (ffz xs) ks (rst n ks) (cnu (i + 1) ks) (-1) b2) := Lib.hid (by have h := HLN.out; rw [if_pos (.inr k2)] at h; exact h)
            clear HLN
            go_wp2_with fail
            go_roundw
            case rel => exact ⟨i + 1, b2, by go_num, rfl, by omega, by omega, hb21, HLM, HB4⟩
            case measure => (simp [intOf] <;> omega)
          · have HLM : Hid (LeK (ffz xs) ks (rst n ks) (cnu (i + 1) ks) (-1) b) := Lib.hid (by have h := HLN.out; rw [if_neg (by omega)] at h; exact h)
            clear HLN
            go_wp2_with fail
            go_roundw
            case rel => exact ⟨i + 1, b, by go_num, rfl, by omega, b0, b1, HLM, HB4⟩
            case measure => (simp [intOf] <;> omega)
/-- Optimal of the reference. -/
theorem optR (p : Option Addr) (xs : List Lf) (c n : Nat) (w : World) (HN : Hid (xs.length = n)) (hn : n ≤ 60) (RA : Hid (SlL w p xs)) (RS : Hid (∀ i, i < xs.length → (xs.getD i lf0).1.size ≤ maxLen)) :
    Calls Try.prog 18 #[.slice p n c] w fun e w' => (∃ r er, e = .returned (.tuple #[.int .i64 r, .int .i64 er]) ∧ OptP xs r er) ∧ Below w.heap.size w w' := by
  have C := Lib.hid (rval p xs c w (by rw [HN.out]; exact hn) RA RS)
  rw [HN.out] at C
  by_cases hv : vE xs = 0
  case neg =>
    have HO : Hid (OptP xs 0 (vE xs)) := Lib.hid (.inl ⟨hv, rfl, rfl⟩)
    obtain ⟨E, hE⟩ : ∃ E, vE xs = E := ⟨_, rfl⟩
    rw [hE] at C hv HO
    have e1 : (E != 0) = true := by simpa using hv
    clear hE
    go_enter Try.func18, Try.ntmps18
    go_wp2_with (go_at_call 23; (with_reducible refine C.out.mono ?_); rintro e w1 ⟨rfl, B1⟩)
    refine bodyPost_ret (v := .tuple #[.int .i64 0, .int .i64 E]) (by simp [results, Try.results18, go_sem]) rfl ?_
    exact ⟨⟨0, E, rfl, HO.out⟩, B1⟩
  have HV := Lib.hid hv
  rw [hv] at C
  by_cases h7 : 7 < n
  case pos =>
    have HO : Hid (OptP xs 0 2) := Lib.hid (.inr (.inl ⟨HV.out, by rw [HN.out]; exact h7, rfl, rfl⟩))
    have h7i : (7 : Int) < n := by omega
    clear hv
    go_enter Try.func18, Try.ntmps18
    go_wp2_with (go_at_call 23; (with_reducible refine C.out.mono ?_); rintro e w1 ⟨rfl, B1⟩)
    refine bodyPost_ret (v := .tuple #[.int .i64 0, .int .i64 2]) (by simp [results, Try.results18, go_sem]) rfl ?_
    exact ⟨⟨0, 2, rfl, HO.out⟩, B1⟩
  have h7i : ¬ (7 : Int) < n := by omega
  have HZ : Hid (∀ i, i < n → 1 ≤ (xs.getD i lf0).2.2.2 ∧ (xs.getD i lf0).2.2.2 ≤ 4096) := Lib.hid fun i hi => by have := valid_at HV.out (i := i) (by rw [HN.out]; exact hi); omega
  have HC := Lib.hid (fun w1 (B : Below w.heap.size w w1) => ordersC p xs c n HN (by omega) HZ n 0 none [] 0 w1 (by omega) (Lib.hid ⟨rfl, List.nodup_nil, fun k h => absurd h (by simp)⟩) (Lib.hid (RA.out.keep B)) (Lib.hid fun i h => absurd h (by simp)))
  clear hv
  go_enter Try.func18, Try.ntmps18
  go_upto_region 7 with (first | (go_at_call 23; (with_reducible refine C.out.mono ?_); rintro e w1 ⟨rfl, B1⟩; have HB1 := Lib.hid B1; clear B1) | (go_at_call 31; (with_reducible refine (HC.out _ HB1.out).mono ?_); rintro e w2 ⟨⟨b, rfl, hb0, hb1, hle⟩, B2⟩; have HLE := Lib.hid hle; have HB2 := Lib.hid (HB1.out.trans (B2.mono HB1.out.size)); clear hle B2))
  have b9 : ¬ b < 0 := by omega
  have HO : Hid (OptP xs b 0) := Lib.hid (.inr (.inr ⟨HV.out, by rw [HN.out]; omega, rfl, by
    have h := HLE.out
    have e : rst n [] = List.range xs.length := by rw [HN.out]; unfold rst; exact List.filter_eq_self.2 (fun a _ => by simp)
    rw [e] at h
    exact h⟩))
  go_wp2_with fail
  refine bodyPost_ret (v := .tuple #[.int .i64 b, .int .i64 0]) (by simp [results, Try.results18, go_sem]) rfl ?_
  exact ⟨⟨b, 0, rfl, HO.out⟩, HB2.out⟩
end Go.Proofs.Ytghnigmmkenddaa.Ar
