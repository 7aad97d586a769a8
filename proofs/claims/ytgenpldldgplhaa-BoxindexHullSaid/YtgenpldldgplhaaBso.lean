/- The library's sort of a row of numbers of one's own. -/
import Derived.Test.YtgenpldldgplhaaBsa
import Derived.Test.YtgenpldldgplhaaShelf
import Derived.Sort.OwnSortedInts
namespace Go.Proofs.Ytgenpldldgplhaa
open Go.ChangeShapes Go.WideShapes Go.ChangeAt Go.RowKit Go.ChangeMaps

open Go.Sort
def srt (zs : List Int) : List Int := zs.mergeSort fun x y => decide (x ≤ y)
theorem srt_len (zs : List Int) : (srt zs).length = zs.length := (List.mergeSort_perm zs _).length_eq
theorem Sort_any (w : World) (base : Nat) (A : Option Addr) (n c : Nat) (zs : List Int) (h : w.ownsRow base 2 1 (.slice A n c) n (ic .i64 zs)) (hn : n ≤ 1000000) :
    Calls Try.prog 26 #[.slice A n c] w fun e w' => e = .returned (.tuple #[]) ∧ w'.ownsRow base 2 1 (.slice A n c) n (ic .i64 (srt zs)) ∧ w.grownBy w' (Value.slice A n c).ownBlock := by
  have hl : zs.length = n := by have := h.1; rw [ic_len] at this; omega
  have h0 := h
  rcases h.2 with ⟨hv, hz⟩ | ⟨g, cap, cur, hv, hg, hb, hnc, hcap, hsz, htake⟩
  · injection hv with e1 e2 e3
    subst e1 e2 e3
    obtain rfl : zs = [] := List.eq_nil_of_length_eq_zero (by omega)
    refine (Go.Proofs.AnyM.slices_Sort_int_none Try.sort64 none 0 w).mono ?_
    rintro e w' ⟨rfl, rfl⟩
    exact ⟨rfl, by rw [show srt [] = [] by simp [srt]]; exact h0, ⟨rfl, rfl, rfl, Nat.le_refl _, fun _ _ _ => rfl⟩⟩
  · injection hv with e1 e2 e3
    subst e1 e3
    subst hl
    have hcap' : zs.length < 4611686018427387904 := by omega
    have hgl : g < w.heap.size := (Array.getElem?_eq_some_iff.1 hb).1
    have ht : cur.toList.take zs.length = zs.map (Value.int .i64) := by simpa [ic] using htake
    refine (Go.Proofs.AnyM.slices_Sort_int Try.sort64 g 0 c zs w (holds_of_blockI hb ht) hgl hcap').mono ?_
    rintro e w' ⟨rfl, n, os, rfl⟩
    exact ⟨rfl, ownsRow_sortedI (by exact srt_len zs) hg hb hnc hcap hsz, grownBy_sortedI _⟩
theorem srt_perm {zs L : List Int} (hp : zs.Perm L) (hs : L.Pairwise (· < ·)) : srt zs = L := by
  have tr : ∀ a b c : Int, decide (a ≤ b) = true → decide (b ≤ c) = true → decide (a ≤ c) = true := fun a b c h1 h2 => by simp only [decide_eq_true_eq] at *; omega
  have to : ∀ a b : Int, (decide (a ≤ b) || decide (b ≤ a)) = true := fun a b => by simp only [Bool.or_eq_true, decide_eq_true_eq]; omega
  exact List.Perm.eq_of_pairwise (le := fun a b => decide (a ≤ b) = true) (fun a b _ _ h1 h2 => by simp only [decide_eq_true_eq] at h1 h2; omega) (List.pairwise_mergeSort tr to zs) (hs.imp fun {a b} h => by simp only [decide_eq_true_eq]; omega) ((List.mergeSort_perm zs _).trans hp)
end Go.Proofs.Ytgenpldldgplhaa
