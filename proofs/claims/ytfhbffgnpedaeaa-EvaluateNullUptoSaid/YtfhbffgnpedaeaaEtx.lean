/- The reference: the type of every expression. -/
import Derived.Test.YtfhbffgnpedaeaaEtl
import Derived.Test.YtfhbffgnpedaeaaEto
import Derived.Test.YtfhbffgnpedaeaaEt4
import Derived.Test.YtfhbffgnpedaeaaEu4
import Derived.Test.YtfhbffgnpedaeaaEt1
import Derived.Test.YtfhbffgnpedaeaaEu1
import Derived.Test.YtfhbffgnpedaeaaEt6
import Derived.Test.YtfhbffgnpedaeaaEt8
namespace Go.Proofs.Ytfhbffgnpedaeaa
open Go.ChangeShapes Go.WideShapes Go.ChangeAt Go.RowKit Go.ChangeMaps

theorem Type_any (L : List Va) (A : Option Addr) (n c : Nat) (x : Ex) : ∀ (w : World), ExAt w x → Vas w A n L → Calls Try.prog 52 #[x.agg, .slice A n c] w fun e w' => e = .returned (.int .i64 (tyM L x)) ∧ Below w.heap.size w w' := by
  refine Ex.ind (p := fun x => ∀ (w : World), ExAt w x → Vas w A n L → Calls Try.prog 52 #[x.agg, .slice A n c] w fun e w' => e = .returned (.int .i64 (tyM L x)) ∧ Below w.heap.size w w') (fun x ih w h hL => ?_) x
  have HT : ∀ y ∈ x.args, TyAt L (.slice A n c) y w := fun y hy W hW => ih y hy W ((h.arg y hy).keep hW) (hL.below hW)
  rw [tyM_eq, tyL_map]
  unfold tyC
  by_cases h1 : x.op = 1
  · rw [if_pos h1]
    exact ty1_any L _ x h1 w h
  rw [if_neg h1]
  by_cases h2 : x.op = 2
  · rw [if_pos h2]
    exact ty2_any L A n c x h2 w h hL
  rw [if_neg h2]
  by_cases h3 : x.op = 3 ∨ x.op = 9 ∨ x.op = 17 ∨ x.op = 20
  · rw [if_pos h3]
    exact tyu_any L _ x h3 w h HT
  rw [if_neg h3]
  have b1 : (x.op == 1) = false := by simpa using h1
  have b2 : (x.op == 2) = false := by simpa using h2
  have b3 : (x.op == 3) = false := by simp; omega
  have b9 : (x.op == 9) = false := by simp; omega
  have b17 : (x.op == 17) = false := by simp; omega
  have b20 : (x.op == 20) = false := by simp; omega
  match hx : x.args, HT with
  | [], _ => exact tyb_any L _ x b1 b2 b3 b9 b17 b20 (by rw [hx]; simp) w h
  | [_], _ => exact tyb_any L _ x b1 b2 b3 b9 b17 b20 (by rw [hx]; simp) w h
  | _ :: _ :: _ :: _, _ => exact tyb_any L _ x b1 b2 b3 b9 b17 b20 (by rw [hx]; simp) w h
  | [a, b], HT =>
    have Ha := HT a (by simp)
    have Hb := HT b (by simp)
    simp only [List.map_cons, List.map_nil]
    by_cases h4' : x.op = 4
    · rw [h4']
      exact ty2_4 L _ x a b hx h4' w h Ha Hb
    by_cases h5' : x.op = 5
    · rw [h5']
      exact ty2_5 L _ x a b hx h5' w h Ha Hb
    by_cases h6' : x.op = 6
    · rw [h6']
      exact ty2_6 L _ x a b hx h6' w h Ha Hb
    by_cases h7' : x.op = 7
    · rw [h7']
      exact ty2_7 L _ x a b hx h7' w h Ha Hb
    by_cases h8' : x.op = 8
    · rw [h8']
      exact ty2_8 L _ x a b hx h8' w h Ha Hb
    by_cases h10' : x.op = 10
    · rw [h10']
      exact ty2_10 L _ x a b hx h10' w h Ha Hb
    by_cases h11' : x.op = 11
    · rw [h11']
      exact ty2_11 L _ x a b hx h11' w h Ha Hb
    by_cases h12' : x.op = 12
    · rw [h12']
      exact ty2_12 L _ x a b hx h12' w h Ha Hb
    by_cases h13' : x.op = 13
    · rw [h13']
      exact ty2_13 L _ x a b hx h13' w h Ha Hb
    by_cases h14' : x.op = 14
    · rw [h14']
      exact ty2_14 L _ x a b hx h14' w h Ha Hb
    by_cases h15' : x.op = 15
    · rw [h15']
      exact ty2_15 L _ x a b hx h15' w h Ha Hb
    by_cases h16' : x.op = 16
    · rw [h16']
      exact ty2_16 L _ x a b hx h16' w h Ha Hb
    by_cases h18' : x.op = 18
    · rw [h18']
      exact ty2_18 L _ x a b hx h18' w h Ha Hb
    by_cases h19' : x.op = 19
    · rw [h19']
      exact ty2_19 L _ x a b hx h19' w h Ha Hb
    have hr : biT x.op a b (tyM L a) (tyM L b) = -1 := by
      unfold biT
      rw [if_neg (by omega), if_neg (by omega), if_neg (by omega), if_neg (by omega)]
    rw [hr]
    exact tyo_any L _ x a b hx b1 b2 b3 b9 b17 b20 (by simp; omega) (by simp; omega) (by simp; omega) (by simp; omega) (by simp; omega) (by simp; omega) (by simp; omega) (by simp; omega) (by simp; omega) (by simp; omega) (by simp; omega) (by simp; omega) (by simp; omega) (by simp; omega) w h
end Go.Proofs.Ytfhbffgnpedaeaa
