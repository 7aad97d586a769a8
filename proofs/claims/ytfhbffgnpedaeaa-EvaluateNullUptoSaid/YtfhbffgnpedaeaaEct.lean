/- What a condition with a type is made of. -/
import Derived.Test.YtfhbffgnpedaeaaErd
import Derived.Test.YtfhbffgnpedaeaaEsm
namespace Go.Proofs.Ytfhbffgnpedaeaa
open Go.ChangeShapes Go.WideShapes Go.ChangeAt Go.RowKit Go.ChangeMaps

theorem typed_any {v : V3} (h : Typed 0 v) (s : Int) : Typed s v := by
  rcases h with h | ⟨h, _⟩ | ⟨h, _⟩
  · exact .inl h
  · omega
  · omega
theorem typed_nul (t : Int) : Typed t nul := .inl ⟨rfl, rfl, rfl⟩
theorem typed_iV (n : Int) : Typed 1 (iV n) := .inr (.inl ⟨rfl, rfl, rfl⟩)
theorem typed_unM (op : Int) (v : V3) : Typed 1 (unM op v) := by
  unfold unM; split; exact typed_iV _; split; exact typed_iV _; exact typed_nul _
theorem typed_binM (op a b : Int) : Typed 1 (binM op a b) := by
  unfold binM
  split; exact typed_iV _
  split; exact typed_iV _
  split; exact typed_iV _
  split; exact typed_nul _
  split; exact typed_iV _
  split; exact typed_iV _
  exact typed_nul _
theorem typed_comb1 (op : Int) (u : V3) : Typed 1 (combM op [u]) := by
  unfold combM
  split
  · exact typed_nul _
  · exact typed_unM _ _
theorem typed_comb2 (op : Int) (u v : V3) : Typed 1 (combM op [u, v]) := by
  unfold combM
  split
  · exact typed_nul _
  · exact typed_binM _ _ _
theorem lit_typed {v : V3} {t : Int} (h : litM v = t) (ht : t = 0 ∨ t = 1 ∨ t = 2) : Typed t v := by
  unfold litM at h
  split at h
  · rename_i g; exact .inl g
  · split at h
    · rename_i g; exact .inr (.inl ⟨h.symm, g.1, g.2.1⟩)
    · split at h
      · rename_i g
        split at h
        · exact .inr (.inr ⟨h.symm, g.1, g.2.1, g.2.2⟩)
        · omega
      · omega
theorem col_ty (L : List Va) (x : Ex) (t : Int) (h : tyM L x = t) (ht : t = 0 ∨ t = 1 ∨ t = 2) (h2 : x.op = 2) : ∃ v, L[x.ix.toNat]? = some v ∧ v.ty = t := by
  rw [tyM_eq] at h
  unfold tyC at h
  rw [if_neg (by omega), if_pos h2] at h
  unfold colT at h
  split at h
  · omega
  · split at h
    · omega
    · split at h
      · omega
      · rename_i v hv
        split at h
        · omega
        · split at h
          · omega
          · exact ⟨v, hv, h⟩
theorem rw_cell : ∀ (L : List Va) (R : List V3) (i : Nat) (v : Va), rwM L R = true → L[i]? = some v → ∃ r, R[i]? = some r ∧ cellB v.ty r = true
  | [], _, i, v, _, h => by simp at h
  | _ :: _, [], _, _, h, _ => by simp [rwM] at h
  | u :: L, r :: R, 0, v, h, e => by
    simp only [rwM, Bool.and_eq_true] at h
    obtain rfl : u = v := by simpa using e
    exact ⟨r, rfl, h.1⟩
  | u :: L, r :: R, i + 1, v, h, e => by
    simp only [rwM, Bool.and_eq_true] at h
    exact rw_cell L R i v h.2 (by simpa using e)
theorem cell_typed {t : Int} {r : V3} (h : cellB t r = true) : Typed t r := by
  unfold cellB at h
  split at h
  · rename_i g
    simp only [Bool.and_eq_true, decide_eq_true_eq] at h
    exact .inl ⟨g, h.1, h.2⟩
  · split at h
    · rename_i g
      simp only [Bool.and_eq_true, decide_eq_true_eq] at h
      exact .inr (.inl ⟨h.1, g, h.2.1⟩)
    · split at h
      · rename_i g
        simp only [Bool.and_eq_true, decide_eq_true_eq] at h
        refine .inr (.inr ⟨h.1, g, h.2.1, ?_⟩)
        rcases lit_typed h.2.2 (by omega) with q | ⟨q, _⟩ | ⟨_, _, _, q⟩ <;> omega
      · cases h
theorem ty_typed (L : List Va) (R : List V3) (x : Ex) (h : tyM L x = 0 ∨ tyM L x = 1 ∨ tyM L x = 2) (hR : rwM L R = true) : Typed (tyM L x) (evM R x) := by
  rcases ty_shape L x _ rfl h with ⟨h1, -, h3⟩ | ⟨h2, -, g0, g1⟩ | ⟨ht, a, ha, g⟩ | ⟨ht, a, b, hab, g4, g8, -⟩
  · rw [evM_eq, if_pos h1]
    exact lit_typed h3 h
  · obtain ⟨v, hv, he⟩ := col_ty L x _ rfl h h2
    obtain ⟨r, hr, hc⟩ := rw_cell L R _ v hR hv
    rw [evM_eq, if_neg (by omega), if_pos h2, if_neg (by omega), ← he]
    simp only [List.getD, hr, Option.getD_some]
    exact cell_typed hc
  · rw [ht, evM_eq, if_neg (by omega), if_neg (by omega), ha]
    simp only [evL]
    exact typed_comb1 _ _
  · rw [ht, evM_eq, if_neg (by omega), if_neg (by omega), hab]
    simp only [evL]
    exact typed_comb2 _ _ _
theorem is_typed (L : List Va) (R : List V3) (x : Ex) (t : Int) (ht : t = 1 ∨ t = 2) (h : isC (tyM L x) t = true) (hR : rwM L R = true) : VOk R x ∧ Typed t (evM R x) := by
  have hl : R.length = L.length := by
    by_cases g : L.length = R.length
    · exact g.symm
    · rw [rw_len L R g] at hR; cases hR
  rcases (isC_iff _ _).1 h with g | g
  · refine ⟨ty_vok L R x (by omega) (.inr hl), ?_⟩
    have := ty_typed L R x (by omega) hR
    rw [g] at this
    exact typed_any this t
  · refine ⟨ty_vok L R x (by omega) (.inr hl), ?_⟩
    have := ty_typed L R x (by omega) hR
    rw [g] at this
    exact this
theorem ty_cok (L : List Va) (R : List V3) (hR : rwM L R = true) (x : Ex) : isC (tyM L x) 3 = true → COk R x := by
  refine Ex.ind (p := fun x => isC (tyM L x) 3 = true → COk R x) (fun x ih h => ?_) x
  rcases (isC_iff _ _).1 h with g | g
  · rcases ty_shape L x _ g (by omega) with ⟨h1, h2, -⟩ | ⟨h2, h3, _⟩ | ⟨ht, _⟩ | ⟨ht, _⟩
    · exact .lit x h1 h2
    · obtain ⟨v, hv, he⟩ := col_ty L x _ g (by omega) h2
      exfalso
      rw [tyM_eq] at g
      unfold tyC at g
      rw [if_neg (by omega), if_pos h2] at g
      unfold colT at g
      split at g
      · omega
      · split at g
        · omega
        · rw [hv] at g
          simp only at g
          split at g
          · omega
          · omega
    · omega
    · omega
  · rw [tyM_eq, tyL_map] at g
    unfold tyC at g
    split at g
    · split at g
      · omega
      · rcases lit_cases x.v with q | q | q | q <;> omega
    · split at g
      · exfalso
        unfold colT at g
        split at g
        · omega
        · split at g
          · omega
          · split at g
            · omega
            · split at g
              · omega
              · split at g
                · omega
                · omega
      · split at g
        · match hx : x.args, g with
          | [], g => simp at g
          | _ :: _ :: _, g => simp at g
          | [a], g =>
            simp only [List.map_cons, List.map_nil, unT] at g
            split at g
            · omega
            · split at g
              · rename_i q
                rcases q with ⟨q1, q2⟩ | ⟨q1, q2⟩
                · rw [Bool.or_eq_true] at q2
                  refine .nul x a q1 hx ?_
                  rcases q2 with q2 | q2
                  · exact (is_typed L R a 1 (.inl rfl) q2 hR).1
                  · exact (is_typed L R a 2 (.inr rfl) q2 hR).1
                · exact .neg x a q1 hx (ih a (by rw [hx]; simp) q2)
              · omega
        · match hx : x.args, g with
          | [], g => simp at g
          | [_], g => simp at g
          | _ :: _ :: _ :: _, g => simp at g
          | [a, b], g =>
            simp only [List.map_cons, List.map_nil, biT] at g
            split at g
            · split at g <;> omega
            · split at g
              · rename_i q
                split at g
                · rename_i q2
                  simp only [Bool.or_eq_true, Bool.and_eq_true] at q2
                  rcases q2 with ⟨s1, s2⟩ | ⟨s1, s2⟩
                  · have y1 := is_typed L R a 1 (.inl rfl) s1 hR
                    have y2 := is_typed L R b 1 (.inl rfl) s2 hR
                    exact .cmp x a b 1 ⟨q.1, by omega⟩ hx y1.1 y2.1 y1.2 y2.2
                  · have y1 := is_typed L R a 2 (.inr rfl) s1 hR
                    have y2 := is_typed L R b 2 (.inr rfl) s2 hR
                    exact .cmp x a b 2 ⟨q.1, by omega⟩ hx y1.1 y2.1 y1.2 y2.2
                · omega
              · split at g
                · rename_i q
                  split at g
                  · rename_i q2
                    simp only [Bool.and_eq_true, decide_eq_true_eq] at q2
                    have y1 := is_typed L R a 2 (.inr rfl) q2.1 hR
                    have y2 := is_typed L R b 2 (.inr rfl) ((isC_iff _ _).2 (.inr q2.2.2)) hR
                    exact .cmp x a b 2 ⟨by omega, by omega⟩ hx y1.1 y2.1 y1.2 y2.2
                  · omega
                · split at g
                  · rename_i q
                    split at g
                    · rename_i q2
                      simp only [Bool.and_eq_true] at q2
                      exact .bin x a b q hx (ih a (by rw [hx]; simp) q2.1) (ih b (by rw [hx]; simp) q2.2)
                    · omega
                  · omega
theorem fit_cok (L : List Va) (R : List V3) (x : Ex) (h : fitM L 3 x = true) (hR : rwM L R = true) : COk R x := by
  unfold fitM at h
  simp only [Bool.and_eq_true] at h
  exact ty_cok L R hR x h.2.2.1
end Go.Proofs.Ytfhbffgnpedaeaa
