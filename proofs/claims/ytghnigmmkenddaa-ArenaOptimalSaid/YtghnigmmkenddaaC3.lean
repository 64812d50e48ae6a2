/- Plan. -/
import Derived.Test.YtghnigmmkenddaaC2
namespace Go.Proofs.Ytghnigmmkenddaa.Ar
open Go.ChangeShapes Go.WideShapes Go.ChangeAt Go.RowKit
open Go.Proofs.Ytghnigmmkenddaa.Lv Go.Proofs.Ytghnigmmkenddaa.Nm
set_option linter.unusedVariables false
set_option linter.unusedSimpArgs false

theorem vgo_all : ∀ {l pre : List Lf}, vgo pre l = 0 → ∀ x ∈ l, bad x = false
  | [], _, _, x, hx => absurd hx (by simp)
  | y :: r, pre, h, x, hx => by
    unfold vgo at h
    by_cases h0 : vs pre y = 0
    · rw [if_pos h0] at h
      rcases List.mem_cons.1 hx with rfl | hx
      · unfold vs at h0
        by_cases a : nmB x.1 = false
        · rw [if_pos a] at h0; exact absurd h0 (by decide)
        · rw [if_neg a] at h0
          by_cases b : dup pre x = true
          · rw [if_pos b] at h0; exact absurd h0 (by decide)
          · rw [if_neg b] at h0
            by_cases c : bad x = true
            · rw [if_pos c] at h0; exact absurd h0 (by decide)
            · simpa using c
      · exact vgo_all h x hx
    · rw [if_neg h0] at h; exact absurd h h0
theorem lf_mem {xs : List Lf} {i : Nat} (h : i < xs.length) : xs.getD i lf0 ∈ xs := by
  rw [getD_lf h]; exact List.getElem_mem h
/-- What a valid list of lifetimes is. -/
theorem valid_at {xs : List Lf} (h : vE xs = 0) {i : Nat} (hi : i < xs.length) : 0 ≤ (xs.getD i lf0).2.1 ∧ (xs.getD i lf0).2.1 ≤ (xs.getD i lf0).2.2.1 ∧ 1 ≤ (xs.getD i lf0).2.2.2 ∧ (xs.getD i lf0).2.2.2 ≤ 4096 := by
  have h1 := vgo_all h _ (lf_mem hi)
  simp only [bad, Bool.or_eq_false_iff, decide_eq_false_iff_not] at h1
  omega
theorem vs_le (pre : List Lf) (x : Lf) : 0 ≤ vs pre x ∧ vs pre x ≤ 8 := by 
  unfold vs
  split
  · exact ⟨by decide, by decide⟩
  · split
    · exact ⟨by decide, by decide⟩
    · split <;> exact ⟨by decide, by decide⟩
theorem vgo_le : ∀ (l pre : List Lf), 0 ≤ vgo pre l ∧ vgo pre l ≤ 8
  | [], _ => by constructor <;> (unfold vgo; decide)
  | x :: r, pre => by
    unfold vgo
    split
    · exact vgo_le r _
    · exact vs_le _ _
/-- The places by decreasing size. -/
def ksz (xs : List Lf) : List Nat := (ordL (fun i => -(xs.getD i.toNat lf0).2.2.2) xs.length).map Int.toNat
def kxx (kx : Int → Int) (n : Nat) : List Nat := (ordL kx n).map Int.toNat
theorem kxx_len (kx : Int → Int) (n : Nat) : (kxx kx n).length = n := by unfold kxx; rw [List.length_map, ordL_len]
theorem kxx_mem {kx : Int → Int} {n k : Nat} (h : k ∈ kxx kx n) : k < n := by
  obtain ⟨x, hx, rfl⟩ := List.mem_map.1 h
  obtain ⟨i, hi, rfl⟩ := ordL_mem hx
  simpa using hi
theorem kxx_perm (kx : Int → Int) (n : Nat) : (kxx kx n).Perm (List.range n) := by
  have h := (ordL_facts kx n).1.map Int.toNat
  have e : (idn n).map Int.toNat = List.range n := by
    unfold idn
    rw [List.map_map]
    conv => rhs; rw [← List.map_id (List.range n)]
    refine List.map_congr_left fun i _ => ?_
    simp
  rw [e] at h
  exact h
theorem kxx_get {kx : Int → Int} {n i : Nat} (h : i < n) : (ordL kx n).getD i e50 = (((kxx kx n).getD i 0 : Nat) : Int) := by
  have hl : i < (ordL kx n).length := by rw [ordL_len]; exact h
  obtain ⟨j, hj, e⟩ := ordL_mem (getD_mem5 hl)
  have e1 : (ordL kx n)[i]? = some (j : Int) := by
    rw [List.getD_eq_getElem?_getD, List.getElem?_eq_getElem hl, Option.getD_some] at e
    rw [List.getElem?_eq_getElem hl, e]
  unfold kxx
  rw [List.getD_eq_getElem?_getD, List.getD_eq_getElem?_getD, List.getElem?_map, e1]
  simp
theorem RI_of {w : World} {base g n : Nat} {kx : Int → Int} (h : w.ownsRow base 3 1 (.slice (some ⟨g, 0, none⟩) n n) n (rowE (ordL kx n))) : RI w g (kxx kx n) := by
  intro i hi
  rw [kxx_len] at hi
  have h1 := (h.cellAt i (by omega)).trans (rowE_get _ i (by rw [ordL_len]; exact hi))
  rw [kxx_get hi] at h1
  exact h1
theorem ffG_bd (xs : List Lf) (hz : ∀ i, i < xs.length → 1 ≤ (xs.getD i lf0).2.2.2 ∧ (xs.getD i lf0).2.2.2 ≤ 4096) : ∀ (r pre : List Nat) (L : List St) (s : Int) (M : Int), (∀ k ∈ r, k < xs.length) → BdS M L → 0 ≤ M → 0 ≤ s → s ≤ M → 0 ≤ (ffG xs pre r L s).2 ∧ (ffG xs pre r L s).2 ≤ M + 4096 * (r.length : Int) ∧ (ffG xs pre r L s).1.length = L.length ∧ BdS (M + 4096 * (r.length : Int)) (ffG xs pre r L s).1
  | [], pre, L, s, M, _, hb, m0, s0, s1 => by
    unfold ffG
    exact ⟨s0, by simpa using s1, rfl, by simpa using hb⟩
  | k :: r, pre, L, s, M, hk, hb, m0, s0, s1 => by
    have hz' := hz k (hk k List.mem_cons_self)
    have h1 := ffo_bd (z := (xs.getD k lf0).2.2.2) (oth_bd (xs := xs) (pre := pre) (k := k) hb m0) m0
    have ih := ffG_bd xs hz r (pre ++ [k]) (L.set k ((xs.getD k lf0).1, ffo (xs.getD k lf0).2.2.2 (oth xs L pre k), (xs.getD k lf0).2.2.2)) (max s (ffo (xs.getD k lf0).2.2.2 (oth xs L pre k) + (xs.getD k lf0).2.2.2)) (M + 4096) (fun j hj => hk j (List.mem_cons_of_mem _ hj)) (hb.set ⟨h1.1, by show 0 ≤ (xs.getD k lf0).2.2.2; omega, hz'.2, by show ffo _ _ + (xs.getD k lf0).2.2.2 ≤ _; omega⟩) (by omega) (by omega) (by omega)
    unfold ffG
    rw [List.length_cons]
    rw [show M + 4096 * ((r.length + 1 : Nat) : Int) = M + 4096 + 4096 * (r.length : Int) by omega]
    refine ⟨ih.1, ih.2.1, by rw [ih.2.2.1, List.length_set], ih.2.2.2⟩
theorem rep_bd (n : Nat) : BdS 0 (List.replicate n st0) := fun s hs => by rw [List.eq_of_mem_replicate hs]; exact ⟨Int.le_refl _, Int.le_refl _, by decide, by decide⟩
/-- Plan's answer. -/
def plF (xs : List Lf) : List St × Int × Int := if vE xs = 0 then ((ffG xs [] (ksz xs) (List.replicate xs.length st0) 0).1, (ffG xs [] (ksz xs) (List.replicate xs.length st0) 0).2, 0) else ([], 0, vE xs)
theorem ksz_eq (xs : List Lf) : ksz xs = kxx (fun i => -(xs.getD i.toNat lf0).2.2.2) xs.length := rfl
set_option maxHeartbeats 4000000 in
/-- Plan of the code. -/
theorem planC (p : Option Addr) (xs : List Lf) (c n : Nat) (w : World) (HN : Hid (xs.length = n)) (hn : n ≤ 60) (RA : Hid (SlL w p xs)) (RS : Hid (∀ i, i < xs.length → (xs.getD i lf0).1.size ≤ maxLen)) :
    Calls Try.prog 10 #[.slice p n c] w fun e w' => ∃ v, e = .returned (.tuple #[v, .int .i64 (plF xs).2.1, .int .i64 (plF xs).2.2]) ∧ Below w.heap.size w w' ∧ w'.ownsRow w.heap.size 39 3 v (plF xs).1.length (rowS (plF xs).1) := by
  have C := Lib.hid (pval p xs c w (by rw [HN.out]; exact hn) RA RS)
  rw [HN.out] at C
  by_cases hv : vE xs = 0
  · have HV := Lib.hid hv
    have HP : Hid (plF xs = ((ffG xs [] (ksz xs) (List.replicate xs.length st0) 0).1, (ffG xs [] (ksz xs) (List.replicate xs.length st0) 0).2, 0)) := Lib.hid (by unfold plF; rw [if_pos hv])
    rw [hv] at C
    have HZ : Hid (∀ i, i < n → 1 ≤ (xs.getD i lf0).2.2.2 ∧ (xs.getD i lf0).2.2.2 ≤ 4096) := Lib.hid fun i hi => by have := valid_at HV.out (i := i) (by rw [HN.out]; exact hi); omega
    have FB := Lib.hid (ffG_bd xs (fun i hi => HZ.out i (by rw [← HN.out]; exact hi)) (ksz xs) [] (List.replicate xs.length st0) 0 0 (fun k hk => kxx_mem hk) (rep_bd _) (Int.le_refl _) (Int.le_refl _) (Int.le_refl _))
    have HFL : Hid ((ffG xs [] (ksz xs) (List.replicate xs.length st0) 0).1.length = n) := Lib.hid (by rw [FB.out.2.2.1, List.length_replicate, HN.out])
    obtain ⟨SZ, hSZ⟩ : ∃ SZ, (ffG xs [] (ksz xs) (List.replicate xs.length st0) 0).2 = SZ := ⟨_, rfl⟩
    obtain ⟨LL, hLL⟩ : ∃ LL, (ffG xs [] (ksz xs) (List.replicate xs.length st0) 0).1 = LL := ⟨_, rfl⟩
    have b1 : SZ ≤ 245760 := by
      have h := FB.out.2.1
      rw [hSZ, ksz_eq, kxx_len, HN.out] at h
      omega
    have b0 : 0 ≤ SZ := by have h := FB.out.1; rw [hSZ] at h; exact h
    rw [HP.out, hSZ, hLL]
    rw [hLL] at HFL
    have HSZ := Lib.hid hSZ
    have HLL := Lib.hid hLL
    clear hv hSZ hLL FB
    have HKK : Hid (ksz xs = kxx (fun i => -(xs.getD i.toNat lf0).2.2.2) n) := Lib.hid (by rw [ksz_eq, HN.out])
    go_enter Try.func10, Try.ntmps10
    go_wp2_with (first
      | (go_at_call 19; (with_reducible refine C.out.mono ?_); rintro e w1 ⟨rfl, B1⟩; have RA1 := Lib.hid (RA.out.keep B1); have OC := Lib.hid (ord21 22 (fun a => -a.2.2.2) (fun a => -4096 ≤ a.2.2.2 ∧ a.2.2.2 ≤ 4096) (Lib.hid ent22) (Lib.hid fun a h w => k22 a w h.1 h.2) p xs c n w1 HN hn RA1 (Lib.hid fun i hi => by have := HZ.out i hi; omega)); have HB1 := Lib.hid B1; clear B1)
      | (go_at_call 21; (with_reducible refine OC.out.mono ?_); rintro e w2 ⟨g2, rfl, B2, O2⟩; have FC := Lib.hid (firstFit p xs c n g2 (ksz xs) w2 HN hn (Lib.hid (RA1.out.keep B2)) HZ (Lib.hid ⟨by rw [HKK.out, kxx_len], fun k hk => by rw [HKK.out] at hk; exact kxx_mem hk⟩) (Lib.hid (by rw [HKK.out]; exact RI_of O2)) (Lib.hid (Or.inr (O2.lt g2 rfl).2))); have HB2 := Lib.hid (HB1.out.trans (B2.mono HB1.out.size)); clear B2 O2)
      | (go_at_call 20; (with_reducible refine FC.out.mono ?_); rintro e w3 ⟨v, rfl, B3, O3⟩; have HE : (ffG xs [] (ksz xs) (List.replicate n st0) 0).2 = SZ := (by rw [← HN.out]; exact HSZ.out); rw [HE]; clear HE; have HB3 := Lib.hid (HB2.out.trans (B3.mono HB2.out.size)); have HO3 : Hid (w3.ownsRow w.heap.size 39 3 v n (rowS LL)) := Lib.hid (by have h := O3; rw [← HN.out] at h; rw [HLL.out] at h; rw [HN.out] at h; exact h.mono HB2.out.size); clear B3 O3))
    refine bodyPost_ret (v := .tuple #[v, .int .i64 SZ, .int .i64 0]) (by simp [results, Try.results10, go_sem]) rfl ?_
    exact ⟨v, rfl, HB3.out, by rw [HFL.out]; exact HO3.out⟩
  · have HV := Lib.hid hv
    have HP : Hid (plF xs = ([], 0, vE xs)) := Lib.hid (by unfold plF; rw [if_neg hv])
    rw [HP.out]
    obtain ⟨E, hE⟩ : ∃ E, vE xs = E := ⟨_, rfl⟩
    rw [hE] at C hv ⊢
    have e1 : (E != 0) = true := by simpa using hv
    clear hE
    go_enter Try.func10, Try.ntmps10
    go_wp2_with (go_at_call 19; (with_reducible refine C.out.mono ?_); rintro e w1 ⟨rfl, B1⟩)
    refine bodyPost_ret (v := .tuple #[.slice none 0 0, .int .i64 0, .int .i64 E]) (by simp [results, Try.results10, go_sem]) rfl ?_
    exact ⟨_, rfl, B1, World.ownsRow_nil _ _ _ _⟩
end Go.Proofs.Ytghnigmmkenddaa.Ar
