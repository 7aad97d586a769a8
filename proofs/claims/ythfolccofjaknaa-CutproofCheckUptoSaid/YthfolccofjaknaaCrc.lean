/- The reference's Apply over any list. -/
import Derived.Test.YthfolccofjaknaaCra
import Derived.Test.YthfolccofjaknaaCay
namespace Go.Proofs.Ythfolccofjaknaa
open Go.ChangeShapes Go.WideShapes Go.ChangeAt Go.RowKit Go.ChangeMaps

set_option maxRecDepth 100000 in
set_option maxHeartbeats 4000000 in
theorem RApply_bad (w : World) (A : Option Addr) (n c : Nat) (Q : List Iq) (Nl : Nat) (hQ : Ineqs w A n Q Nl) (s : Sp) (K : Nat) (hsy : sysM (Q.map Iq.m) = false) :
    Calls Try.prog 20 #[.slice A n c, s.val] w (ApP w none K) := by
  have HQ := Lib.hid hQ
  clear hQ
  obtain ⟨k3, hk3⟩ : ∃ k3, k3 = w.heap.size := ⟨_, rfl⟩
  obtain ⟨k4, hk4⟩ : ∃ k4, k4 = k3 + 1 := ⟨_, rfl⟩
  obtain ⟨W1, hW1⟩ : ∃ W1, W1 = (w.alloc (.cells #[.slice s.A s.n s.c, .bool s.d.neg, .slice s.d.A s.d.n s.d.c] 39)).alloc (.cells #[.slice none 0 0, .bool false, .slice none 0 0] 44) := ⟨_, rfl⟩
  have HB := Lib.hid (show Below w.heap.size w W1 by rw [hW1]; exact ((Below.refl _ _).alloc (Nat.le_refl _) _).alloc (by simp) _)
  have KB := Lib.hid (show Blk W1 k4 44 #[.slice none 0 0, .bool false, .slice none 0 0] by rw [hW1]; exact Blk.new_ (by rw [hk4, hk3]; simp) rfl)
  have hk4w : w.heap.size ≤ k4 := by omega
  have hk43 : k4 = k3 + 1 := hk4
  have CS := Lib.hid (REven_any W1 A n c Q Nl (HQ.out.below HB.out))
  rw [hsy] at CS
  unfold Sp.val
  go_enter Try.func20, Try.ntmps20
  go_upto_region 1 with fail
  rw [← hk3]
  try rw [← hk43]
  rw [← hW1]
  clear hk3 hk4 hk43 hW1
  go_wp2_with fail
  refine CS.out.mono ?_
  rintro e3 w3 ⟨rfl, hb3⟩
  have HB3 := Lib.hid (HB.out.trans (hb3.mono HB.out.size))
  have KB3 := Lib.hid (KB.out.below hb3)
  clear hb3 CS KB HB
  have b0 : w3.cell? ⟨k4, 0, none⟩ = some (.slice none 0 0) := KB3.out.cell 0
  have b1 : w3.cell? ⟨k4, 1, none⟩ = some (.bool false) := KB3.out.cell 1
  have b2 : w3.cell? ⟨k4, 2, none⟩ = some (.slice none 0 0) := KB3.out.cell 2
  have f0 := Joins.unfrozen_of_block KB3.out 0
  have f1 := Joins.unfrozen_of_block KB3.out 1
  have f2 := Joins.unfrozen_of_block KB3.out 2
  have HS3 := Lib.hid (store3 KB3.out (.slice none 0 0) (.bool false) (.slice none 0 0))
  go_wp2
  try simp only [Exit.inBlock, Exit.then]
  refine bodyPost_ret (results_c2 rfl _ _ _ k4 _ rfl (load44 HS3.out.1 rfl)) rfl ?_
  exact ⟨HS3.out.2 _ _ HB3.out hk4w, fun _ => rfl, fun m hm => by cases hm⟩
theorem RApply_any (w : World) (A : Option Addr) (n c : Nat) (Q : List Iq) (Nl : Nat) (hQ : Ineqs w A n Q Nl) (hqn : ∀ q ∈ Q, q.n ≤ 1000000) (s : Sp) (Ns : Nat) (hs : s.ok w Ns) (hNK : Ns + Nl + 1 ≤ 4000) (hm : s.n < 4294967296) :
    Calls Try.prog 20 #[.slice A n c, s.val] w (ApP w (if sysM (Q.map Iq.m) = true then applyM (Q.map Iq.m) (s.U.map Us.m) s.d.z else none) (Ns + Nl + 1)) := by
  cases hsy : sysM (Q.map Iq.m) with
  | false =>
    rw [if_neg (by decide)]
    exact RApply_bad w A n c Q Nl hQ s _ hsy
  | true =>
    rw [if_pos rfl]
    obtain ⟨h1, h2, h3⟩ := sysM_width hQ hsy
    exact RApply_sys w A n c Q Nl hQ (widthM (Q.map Iq.m)) h1 (fun h => h2 (hQ.len.trans h)) (h3 hqn) s Ns hs hNK hsy hm
end Go.Proofs.Ythfolccofjaknaa
