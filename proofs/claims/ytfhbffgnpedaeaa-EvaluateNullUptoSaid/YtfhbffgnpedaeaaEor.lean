/- The reference: the order of two values. -/
import Derived.Test.YtfhbffgnpedaeaaEcp
import Derived.Test.YtfhbffgnpedaeaaErl
namespace Go.Proofs.Ytfhbffgnpedaeaa
open Go.ChangeShapes Go.WideShapes Go.ChangeAt Go.RowKit Go.ChangeMaps

theorem tc_less : ∀ l m : List UInt8, Op.bytesLess l m = decide (tcmp l m < 0)
  | [], [] => rfl
  | [], _ :: _ => rfl
  | _ :: _, [] => by unfold Op.bytesLess; rfl
  | a :: l, b :: m => by
    have ih := tc_less l m
    unfold tcmp at ih ⊢
    unfold Op.bytesLess lex
    rw [ih]
    unfold ucmp
    by_cases h : a < b
    · have h' : (a.toNat : Int) < b.toNat := by exact_mod_cast UInt8.lt_iff_toNat_lt.1 h
      rw [show icmp a.toNat b.toNat = -1 by unfold icmp; rw [if_pos h']]
      simp [h]
    · have h' : ¬ (a.toNat : Int) < b.toNat := fun q => h (UInt8.lt_iff_toNat_lt.2 (by exact_mod_cast q))
      by_cases g : b < a
      · have g' : (b.toNat : Int) < a.toNat := by exact_mod_cast UInt8.lt_iff_toNat_lt.1 g
        rw [show icmp a.toNat b.toNat = 1 by unfold icmp; rw [if_neg h', if_pos g']]
        have hne : (a == b) = false := by simp; intro e; subst e; omega
        simp [h, hne]
      · have g' : ¬ (b.toNat : Int) < a.toNat := fun q => g (UInt8.lt_iff_toNat_lt.2 (by exact_mod_cast q))
        rw [show icmp a.toNat b.toNat = 0 by unfold icmp; rw [if_neg h', if_neg g']]
        have he : a = b := UInt8.toNat_inj.1 (by omega)
        simp [h, he]
theorem tc_neg : ∀ l m : List UInt8, tcmp m l = -tcmp l m
  | [], [] => rfl
  | [], _ :: _ => rfl
  | _ :: _, [] => rfl
  | a :: l, b :: m => by
    have ih := tc_neg l m
    unfold tcmp at ih ⊢
    unfold lex
    rw [ih]
    have e : ucmp b a = -ucmp a b := by unfold ucmp icmp; split <;> split <;> omega
    rw [e]
    split <;> split <;> omega
theorem tc_zero : ∀ l m : List UInt8, tcmp l m = 0 ↔ l = m
  | [], [] => by simp [tcmp, lex]
  | [], _ :: _ => by simp [tcmp, lex]
  | _ :: _, [] => by simp [tcmp, lex]
  | a :: l, b :: m => by
    have ih := tc_zero l m
    unfold tcmp at ih ⊢
    unfold lex
    by_cases h : ucmp a b = 0
    · rw [if_pos h, ih]
      have : a = b := by unfold ucmp at h; rw [icmp_zero] at h; exact UInt8.toNat_inj.1 (by omega)
      simp [this]
    · rw [if_neg h]
      have : a ≠ b := fun e => h (by subst e; unfold ucmp; rw [icmp_zero])
      simp [h, this]
def ordM (a b : V3) : Int := if a.n < b.n then -1 else if Op.bytesLess a.s.toList b.s.toList = true then -1 else if a.n > b.n then 1 else if (!Op.bytesLess a.s.toList b.s.toList && !(a.s.toList == b.s.toList)) = true then 1 else 0
set_option maxRecDepth 100000 in
set_option maxHeartbeats 2000000 in
theorem order_any (a b : V3) (w : World) : Calls Try.prog 40 #[a.agg, b.agg] w fun e w' => e = .returned (.int .i64 (ordM a b)) ∧ Below w.heap.size w w' := by
  obtain ⟨k, n, s⟩ := a
  obtain ⟨k', n', t⟩ := b
  obtain ⟨r, hr⟩ : ∃ r, ordM ⟨k, n, s⟩ ⟨k', n', t⟩ = r := ⟨_, rfl⟩
  rw [hr]
  unfold ordM at hr
  simp only at hr
  unfold V3.agg
  have HB := Lib.hid (show Below w.heap.size w ((w.alloc (.cells #[.int .i64 k, .int .i64 n, .string s] 23)).alloc (.cells #[.int .i64 k', .int .i64 n', .string t] 23)) from ((Below.refl _ w).alloc (Nat.le_refl _) _).alloc (by simp) _)
  by_cases h1 : n < n'
  · have HR := Lib.hid (show -1 = r by rw [← hr, if_pos h1])
    clear hr
    go_enter Try.func40, Try.ntmps40
    go_wp2
    go_ret
    exact ⟨ret_int HR.out, HB.out⟩
  rw [if_neg h1] at hr
  cases h2 : Op.bytesLess s.toList t.toList
  case true =>
    have HR := Lib.hid (show -1 = r by rw [← hr, if_pos h2])
    clear hr
    go_enter Try.func40, Try.ntmps40
    go_wp2
    go_ret
    exact ⟨ret_int HR.out, HB.out⟩
  rw [h2, if_neg (by decide)] at hr
  by_cases h3 : n > n'
  · have HR := Lib.hid (show 1 = r by rw [← hr, if_pos h3])
    clear hr
    go_enter Try.func40, Try.ntmps40
    go_wp2
    go_ret
    exact ⟨ret_int HR.out, HB.out⟩
  rw [if_neg h3] at hr
  cases h4 : (s.toList == t.toList)
  case true =>
    have HR := Lib.hid (show 0 = r by rw [← hr, h4]; rfl)
    clear hr
    go_enter Try.func40, Try.ntmps40
    go_wp2
    go_ret
    exact ⟨ret_int HR.out, HB.out⟩
  have HR := Lib.hid (show 1 = r by rw [← hr, h4]; rfl)
  clear hr
  go_enter Try.func40, Try.ntmps40
  go_wp2
  go_ret
  exact ⟨ret_int HR.out, HB.out⟩
/-- A value of one of the two kinds, without what belongs to the other. -/
def Typed (t : Int) (v : V3) : Prop := (v.k = 0 ∧ v.n = 0 ∧ v.s.size = 0) ∨ (t = 1 ∧ v.k = 1 ∧ v.s.size = 0) ∨ (t = 2 ∧ v.k = 2 ∧ v.n = 0 ∧ v.s.size ≤ 16)
theorem size0 {s : ByteArray} (h : s.size = 0) : s = ⟨#[]⟩ := by
  obtain ⟨⟨l⟩⟩ := s
  have : l.length = 0 := h
  simp at this
  subst this
  rfl
theorem ord_vcmp {t : Int} {u v : V3} (hu : Typed t u) (hv : Typed t v) (h0 : u.k ≠ 0) (h1 : v.k ≠ 0) : u.k = v.k ∧ (ordM u v = 0 ↔ u.eqB v = true) ∧ (ordM u v < 0 ↔ vcmp u v < 0) ∧ (0 < ordM u v ↔ vcmp v u < 0) := by
  obtain ⟨k, n, s⟩ := u
  obtain ⟨k', n', q⟩ := v
  simp only [Typed] at hu hv h0 h1
  unfold ordM vcmp V3.eqB
  simp only
  rcases hu with hu | ⟨ht, hk, hs⟩ | ⟨ht, hk, hn, _⟩
  · exact absurd hu.1 h0
  · rcases hv with hv | ⟨_, hk', hs'⟩ | ⟨ht', _⟩
    · exact absurd hv.1 h1
    · obtain rfl := size0 hs
      obtain rfl := size0 hs'
      subst hk hk'
      have e1 : Op.bytesLess (⟨#[]⟩ : ByteArray).toList (⟨#[]⟩ : ByteArray).toList = false := by decide +kernel
      have e2 : ((⟨#[]⟩ : ByteArray).toList == (⟨#[]⟩ : ByteArray).toList) = true := by decide +kernel
      have e3 : tcmp [] [] = 0 := rfl
      simp only [e1, e2, Bool.and_true, beq_self_eq_true, Bool.true_and, Bool.not_true, Bool.and_false, ne_eq, not_true_eq_false, if_false]
      refine ⟨trivial, ?_, ?_, ?_⟩
      · rw [beq_iff_eq]
        repeat' split
        all_goals first | omega | simp_all
      · unfold icmp
        simp only [e3]
        repeat' split
        all_goals first | omega | simp_all
      · unfold icmp
        simp only [e3]
        repeat' split
        all_goals first | omega | simp_all
    · omega
  · rcases hv with hv | ⟨ht', _⟩ | ⟨_, hk', hn', _⟩
    · exact absurd hv.1 h1
    · omega
    · subst hk hk' hn hn'
      have hz := tc_zero s.data.toList q.data.toList
      have hn := tc_neg s.data.toList q.data.toList
      simp only [ByteArray.toList_eq, tc_less] at *
      simp only [beq_self_eq_true, Bool.true_and, ne_eq, not_true_eq_false, if_false, hn]
      generalize tcmp s.data.toList q.data.toList = c at *
      refine ⟨trivial, ?_, ?_, ?_⟩
      · rw [beq_iff_eq, ← hz]
        by_cases h2 : c < 0
        · simp [h2]; omega
        · by_cases h3 : c = 0
          · have := hz.1 h3
            simp [h2, h3, this]
          · have : ¬ s.data.toList = q.data.toList := fun e => h3 (hz.2 e)
            have t2 : ¬ s.data = q.data := fun e => this (by rw [e])
            simp [h2, h3, this, t2]
      · by_cases h2 : c < 0
        · simp [h2]
        · simp [h2]
          split <;> omega
      · by_cases h2 : c < 0
        · simp [h2]; omega
        · by_cases h3 : c = 0
          · have := hz.1 h3
            simp [h2, h3, this]
          · have : ¬ s.data.toList = q.data.toList := fun e => h3 (hz.2 e)
            have t2 : ¬ s.data = q.data := fun e => this (by rw [e])
            have h4 : 0 < c := by omega
            simp [h2, this, t2, h4]
def rcmpM (op c : Int) (u v : V3) : Int := if op = 10 then ofM (decide (c = 0)) else if op = 11 then ofM (decide (c ≠ 0)) else if op = 12 then ofM (decide (c < 0)) else if op = 13 then ofM (decide (c ≤ 0)) else if op = 14 then ofM (decide (0 < c)) else if op = 15 then ofM (decide (0 ≤ c)) else ofM (likeM v.s.data.toList u.s.data.toList)
theorem not_of (b : Bool) : notM (ofM b) = ofM (!b) := by cases b <;> rfl
theorem rcmp_eq {t op : Int} {u v : V3} (hop : 10 ≤ op ∧ op ≤ 16) (hu : Typed t u) (hv : Typed t v) : cmpM op u v = if u.k = 0 then 2 else if v.k = 0 then 2 else rcmpM op (ordM u v) u v := by
  by_cases h0 : u.k = 0
  · rw [if_pos h0]
    unfold cmpM eqM ltM
    simp only [h0, if_true]
    have : notM 2 = 2 := rfl
    by_cases g : v.k = 0
    · simp only [g, if_true, this, ite_self]
    · simp only [if_neg g, this, ite_self]
  rw [if_neg h0]
  by_cases h1 : v.k = 0
  · rw [if_pos h1]
    unfold cmpM eqM ltM
    have : notM 2 = 2 := rfl
    simp only [h1, if_true, this, ite_self]
  rw [if_neg h1]
  obtain ⟨hk, a1, a2, a3⟩ := ord_vcmp hu hv h0 h1
  unfold cmpM eqM ltM rcmpM
  simp only [if_neg h0, if_neg h1, hk, decide_true, Bool.true_and, not_of]
  have b1 : u.eqB v = decide (ordM u v = 0) := by rw [Bool.eq_iff_iff, decide_eq_true_eq]; exact a1.symm
  have b2 : decide (vcmp u v < 0) = decide (ordM u v < 0) := by rw [Bool.eq_iff_iff, decide_eq_true_eq, decide_eq_true_eq]; exact a2.symm
  have b3 : decide (vcmp v u < 0) = decide (0 < ordM u v) := by rw [Bool.eq_iff_iff, decide_eq_true_eq, decide_eq_true_eq]; exact a3.symm
  rw [b1, b2, b3]
  generalize ordM u v = c
  have d1 : (!decide (c = 0)) = decide (c ≠ 0) := by simp
  have d2 : (!decide (0 < c)) = decide (c ≤ 0) := by rw [Bool.eq_iff_iff]; simp
  have d3 : (!decide (c < 0)) = decide (0 ≤ c) := by rw [Bool.eq_iff_iff]; simp
  rw [d1, d2, d3]
  rcases (by omega : op = 10 ∨ op = 11 ∨ op = 12 ∨ op = 13 ∨ op = 14 ∨ op = 15 ∨ op = 16) with h | h | h | h | h | h | h <;> subst h <;> rfl
end Go.Proofs.Ytfhbffgnpedaeaa
