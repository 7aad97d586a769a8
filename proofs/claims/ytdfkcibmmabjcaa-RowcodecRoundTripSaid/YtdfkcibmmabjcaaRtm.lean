/- Decoding restores the encoded rows. -/
import Derived.Test.YtdfkcibmmabjcaaDrw
import Derived.Test.YtdfkcibmmabjcaaOdr
namespace Go.Proofs.Ytdfkcibmmabjcaa
open Go.ChangeShapes Go.WideShapes Go.ChangeAt Go.RowKit Go.ChangeMaps

theorem index_skip : ∀ (l : List UInt8) (A : List UInt8), (∀ x ∈ l, x ≠ 0) → Lib.indexByte (l ++ 0 :: A) 0 = l.length
  | [], A, _ => rfl
  | x :: l, A, h => by
    have ih := index_skip l A (fun y hy => h y (List.mem_cons_of_mem _ hy))
    have hx : (x == 0) = false := by simpa using h x List.mem_cons_self
    rw [List.cons_append]
    unfold Lib.indexByte
    rw [hx, ih]
    rw [if_neg (by decide), if_neg (by simp only [beq_iff_eq]; omega)]
    simp
theorem pr_nz : ∀ l : List UInt8, prB l = true → ∀ x ∈ l, x ≠ 0
  | [], _, x, hx => by cases hx
  | y :: l, h, x, hx => by
    obtain ⟨h1, _, h3⟩ := pr_cons h
    rcases List.mem_cons.1 hx with rfl | hx
    · intro e; subst e; exact absurd h1 (by decide)
    · exact pr_nz l h3 x hx
theorem byt_nil (s : ByteArray) (h : s.data.toList = []) : s = ⟨#[]⟩ := by
  apply ByteArray.ext
  apply Array.ext'
  simpa using h
theorem decD_enc (x : V3) (A : List UInt8) (hx : x.valid = true) (ox : x.ok) : decD (x.enc ++ A) = (x, x.enc.length) := by
  rcases x with ⟨k, n, s⟩
  rcases valid_cases _ hx with ⟨a, a2, a3, e⟩ | ⟨a, a3, e⟩ | ⟨a, a2, a3, a4, e⟩ <;> simp only at a a3 <;> rw [e]
  · simp only at a2
    subst a
    subst a2
    rw [byt_nil s a3]; rfl
  · subst a
    have hs := byt_nil s a3
    subst hs
    obtain ⟨_, _, n1, n2, _⟩ := ox
    simp only at n1 n2 ⊢
    rw [List.append_assoc]
    show decD (2 :: (num8 (n + 9223372036854775808) ++ A)) = _
    rw [decD_cons, if_neg (by decide), if_pos rfl, if_pos (by simp [num8_len]), List.take_left' (by rfl), val8_num8 _ (by omega) (by omega)]
    simp [num8_len]
  · simp only at a2 a4 ⊢
    subst a
    subst a2
    have hl : s.data.toList.length = s.size := by simp
    have hi : Lib.indexByte (3 :: (s.data.toList ++ [0] ++ A)) 0 = (s.data.toList.length : Int) + 1 := by
      have := index_skip (3 :: s.data.toList) A (fun y hy => by
        rcases List.mem_cons.1 hy with rfl | hy
        · decide
        · exact pr_nz _ a3 y hy)
      rw [List.append_assoc]
      exact this
    rw [List.append_assoc [3], show [3] ++ (s.data.toList ++ [0] ++ A) = 3 :: (s.data.toList ++ [0] ++ A) from rfl, decD_cons, if_neg (by decide), if_neg (by decide), if_pos rfl, hi, if_pos (by omega)]
    rw [show ((s.data.toList.length : Int) + 1).toNat = s.data.toList.length + 1 by omega, Nat.add_sub_cancel, List.append_assoc, List.take_left' rfl, if_pos ⟨by omega, a3⟩]
    simp
theorem enc_pos (x : V3) (h : x.valid = true) : 0 < x.enc.length := by
  obtain ⟨c, l, e⟩ := enc_ne x h
  rw [e]; simp
theorem decA_enc : ∀ (R : List V3), (∀ x ∈ R, x.ok) → R.all V3.valid = true → decA (encR R) = some R
  | [], _, _ => decA_nil
  | x :: R, hR, h => by
    simp only [List.all_cons, Bool.and_eq_true] at h
    have ih := decA_enc R (fun y hy => hR y (List.mem_cons_of_mem _ hy)) h.2
    have hd := decD_enc x (encR R) h.1 (hR x List.mem_cons_self)
    have hp := enc_pos x h.1
    rw [encR_cons]
    have hne : x.enc ++ encR R ≠ [] := fun e => by have h2 := congrArg List.length e; rw [List.length_append, List.length_nil] at h2; omega
    rw [decA_go _ hne (by rw [hd]; simp only; omega), hd]
    simp only
    rw [List.drop_left' rfl, ih]
    rfl
theorem lex_refl {α : Type} (f : α → α → Int) (hf : ∀ a, f a a = 0) : ∀ l, lex f l l = 0
  | [] => rfl
  | a :: l => by
    have e : lex f (a :: l) (a :: l) = if f a a = 0 then lex f l l else f a a := rfl
    rw [e, if_pos (hf a), lex_refl f hf l]
theorem vcmp_refl (x : V3) : vcmp x x = 0 := by
  unfold vcmp
  rw [if_neg (by simp), if_neg (by simp)]
  exact lex_refl ucmp (fun a => (icmp_zero _ _).2 rfl) _
theorem rcmp_refl (R : List V3) : rcmp R R = 0 := lex_refl _ vcmp_refl R
end Go.Proofs.Ytdfkcibmmabjcaa
