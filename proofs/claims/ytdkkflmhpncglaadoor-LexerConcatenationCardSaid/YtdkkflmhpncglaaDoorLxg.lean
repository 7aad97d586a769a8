/- What the library reads, as laid; a literal is the quote of its text. -/
import Derived.Test.YtdkkflmhpncglaaDoorLxe
import Derived.Test.YtdkkflmhpncglaaDoorLxf
import Derived.Test.YtdkkflmhpncglaaDoorLws
import Derived.Lib.LaidU8
namespace Go.Proofs.YtdkkflmhpncglaaDoor
open Go.ChangeShapes Go.WideShapes Go.ChangeAt Go.RowKit Go.ChangeMaps

set_option maxRecDepth 100000 in
theorem env_of {W : World} (hL : laidMetH Tryd.prog Rows.lexerTokensRow.laid W) (hsh : W.ShapedOpen Tryd.prog) : LEnv W := by
  rw [MakeChecks.laidMetH_plain _ _ _ (by kernel_rfl)] at hL
  exact ⟨cell_of_shapedOpen_int (zero := #[.int .i64 0]) (t := 3) hsh (of_decide_eq_true (by kernel_rfl)) (by kernel_rfl) rfl (by kernel_rfl) (by kernel_rfl) Tryd.underlying3,
    utf8Tabs_of_reads Tryd.lays260 ⟨by kernel_rfl, by kernel_rfl, by kernel_rfl, by kernel_rfl, by kernel_rfl, by kernel_rfl, by kernel_rfl⟩ (Lib.laidMet.reads hL (.tail _ (.head _))) (Lib.laidMet.reads hL (.head _))⟩
theorem dbl_cons (b : UInt8) (t : List UInt8) : dbl (b :: t) = (if b = 39 then [39, 39] else [b]) ++ dbl t := by unfold dbl; rw [List.flatMap_cons]
theorem litQ_spec : ∀ (N : Nat) (l : List UInt8), l.length ≤ N → ∀ x, litQ l = some x → x.1.all prt = true ∧ l.take x.2 = dbl x.1 ++ [39]
  | _, [], _, x, h => by rw [litQ] at h; cases h
  | 0, c :: l, hl, _, _ => by simp at hl
  | N + 1, c :: l, hl, x, h => by
    rw [litQ.eq_def] at h
    simp only at h
    split at h
    · rename_i hp
      split at h
      · rename_i hc
        split at h
        · injection h with h; subst h; subst hc; exact ⟨rfl, rfl⟩
        · rename_i d l'
          split at h
          · rename_i hd
            rw [Option.map_eq_some_iff] at h
            obtain ⟨y, hy, rfl⟩ := h
            obtain ⟨a, b⟩ := litQ_spec N l' (by simp at hl; omega) y hy
            subst hc
            subst hd
            refine ⟨by simp only [List.all_cons, a, hp, Bool.and_true], ?_⟩
            rw [dbl_cons, if_pos rfl]
            show 39 :: 39 :: l'.take y.2 = _
            rw [b]
            rfl
          · injection h with h; subst h; subst hc; exact ⟨rfl, rfl⟩
      · rename_i hc
        rw [Option.map_eq_some_iff] at h
        obtain ⟨y, hy, rfl⟩ := h
        obtain ⟨a, b⟩ := litQ_spec N l (by simpa using hl) y hy
        refine ⟨by simp only [List.all_cons, a, hp, Bool.and_true], ?_⟩
        rw [dbl_cons, if_neg hc]
        show c :: l.take y.2 = _
        rw [b]
        rfl
    · cases h
theorem unq_quote (l t : List UInt8) (h : unqL l = some t) : QuoteL t = l := by
  unfold unqL at h
  split at h
  · rename_i hh
    unfold litP at h
    rcases hq : litQ (l.drop 1) with _ | x
    · rw [hq] at h; cases h
    · rw [hq] at h
      simp only [Option.map_some, unqR, List.nil_append] at h
      split at h
      · rename_i hn
        split at h
        · cases h
        · rename_i h16
          injection h with h
          subst h
          obtain ⟨a, b⟩ := litQ_spec _ _ (Nat.le_refl _) x hq
          rcases l with _ | ⟨c, l⟩
          · cases hh
          · have hc : c = 39 := Option.some.inj hh
            subst hc
            rw [List.drop_succ_cons, List.drop_zero] at b
            rw [List.length_cons] at hn
            rw [List.take_of_length_le (by omega)] at b
            unfold QuoteL txtL quoL
            rw [if_pos (by rw [a, decide_eq_true (by omega)]; rfl), ← b]
      · cases h
  · cases h
end Go.Proofs.YtdkkflmhpncglaaDoor
