/- The estimate of a digit of a quotient (pure). -/
import Derived.Test.YthfolccofjaknaaMB
import Derived.Lib.EndianBits
import Derived.Laws.Bits64b
import Derived.Test.YthfolccofjaknaaBdd
import Derived.BigQuiet
import Derived.Lib.QuietBelow
import Derived.Test.YthfolccofjaknaaBdv
import Derived.Test.YthfolccofjaknaaShelf
namespace Go.Proofs.Ythfolccofjaknaa
open Go.ChangeShapes Go.WideShapes Go.ChangeAt Go.RowKit Go.ChangeMaps


/-- What the loop of the estimate keeps: 'p' is at least the true quotient, and 'p * v + r' is the top of the dividend. -/
def Est (B v _v2 top _u2 q p r : Nat) : Prop := p * v + r = top ∧ q ≤ p ∧ r < B
theorem est_start {B v v2 top u2 u V L q : Nat} (hv : 0 < v) (hvB : v < B) (_hV : V < (v * B + v2 + 1) * L) (hV1 : (v * B + v2) * L ≤ V) (_hU1 : (top * B + u2) * L ≤ u) (hU : u < (top * B + u2 + 1) * L) (hu2 : u2 < B) (hq : q * V ≤ u) : Est B v v2 top u2 q (top / v) (top % v) := by
  refine ⟨by rw [Nat.mul_comm]; exact Nat.div_add_mod top v, ?_, Nat.lt_trans (Nat.mod_lt _ hv) hvB⟩
  rw [Nat.le_div_iff_mul_le hv]
  have h1 : q * ((v * B + v2) * L) ≤ q * V := Nat.mul_le_mul_left q hV1
  have h2 : q * ((v * B + v2) * L) < (top * B + u2 + 1) * L := by omega
  rw [← Nat.mul_assoc] at h2
  have h3 : q * (v * B + v2) < top * B + u2 + 1 := Nat.lt_of_mul_lt_mul_right h2
  have h4 : q * v * B ≤ q * (v * B + v2) := by rw [Nat.mul_assoc]; exact Nat.mul_le_mul_left q (Nat.le_add_right _ _)
  have h5 : q * v * B < (top + 1) * B := by rw [Nat.add_mul]; omega
  have := Nat.lt_of_mul_lt_mul_right h5
  omega
/-- The test of the estimate says that it is too great. -/
theorem est_great {B v v2 top u2 u V L q p r : Nat} (h : Est B v v2 top u2 q p r) (_hL : 0 < L) (hV1 : (v * B + v2) * L ≤ V) (hU : u < (top * B + u2 + 1) * L) (hq : q * V ≤ u) (hqB : q < B) (ht : B ≤ p ∨ r * B + u2 < p * v2) : q ≤ p - 1 ∧ 0 < p := by
  obtain ⟨he, hqp, _⟩ := h
  rcases ht with ht | ht
  · omega
  · have h0 : 0 < p := by
      rcases Nat.eq_zero_or_pos p with e | e
      · subst e; simp at ht
      · exact e
    refine ⟨?_, h0⟩
    suffices q ≠ p by omega
    rintro rfl
    have h1 : q * ((v * B + v2) * L) ≤ q * V := Nat.mul_le_mul_left q hV1
    have h2 : q * (v * B + v2) * L < (top * B + u2 + 1) * L := by rw [Nat.mul_assoc]; omega
    have h3 := Nat.lt_of_mul_lt_mul_right h2
    have h4 : q * (v * B + v2) = q * v * B + q * v2 := by rw [Nat.mul_add, Nat.mul_assoc]
    have h5 : top * B = q * v * B + r * B := by rw [← he, Nat.add_mul]
    omega
theorem est_next {B v v2 top u2 q p r : Nat} (h : Est B v v2 top u2 q p r) (hp : q ≤ p - 1) (h0 : 0 < p) (hr : r + v < B) : Est B v v2 top u2 q (p - 1) (r + v) := by
  obtain ⟨he, _, _⟩ := h
  refine ⟨?_, hp, hr⟩
  obtain ⟨p, rfl⟩ : ∃ k, p = k + 1 := ⟨p - 1, by omega⟩
  rw [Nat.add_mul, Nat.one_mul] at he
  rw [Nat.add_sub_cancel]
  omega
/-- The estimate is at most the base plus one, and the base plus one is never left by the break. -/
theorem est_base {B v v2 top u2 q p r u1 u0 : Nat} (h : Est B v v2 top u2 q p r) (ht : top = u1 * B + u0) (hu0 : u0 < B) (hu1 : u1 ≤ v) (hvB : B ≤ 2 * v) : p ≤ B + 1 ∧ (p = B + 1 → r + v < B) := by
  obtain ⟨he, _, _⟩ := h
  have h1 : u1 * B ≤ v * B := Nat.mul_le_mul_right B hu1
  have hB : p * v + r ≤ B * v + u0 := by rw [he, ht, Nat.mul_comm B v]; omega
  constructor
  · rcases Nat.lt_or_ge (B + 1) p with g | g
    · have h2 : (B + 2) * v ≤ p * v := Nat.mul_le_mul_right v g
      rw [Nat.add_mul] at h2
      omega
    · exact g
  · rintro rfl
    rw [Nat.add_mul] at hB
    omega
/-- Where the loop ends, the estimate is right or one too great. -/
theorem est_end {B v v2 top u2 u V L q p r : Nat} (he : p * v + r = top) (hpB : p < B) (ht : p * v2 ≤ r * B + u2) (hV : V < (v * B + v2 + 1) * L) (hV1 : (v * B + v2) * L ≤ V) (hU1 : (top * B + u2) * L ≤ u) (hv : 0 < v) (hq2 : u < (q + 1) * V) : p ≤ q + 1 := by
  have h4 : p * (v * B + v2) = p * v * B + p * v2 := by rw [Nat.mul_add, Nat.mul_assoc]
  have h5 : top * B = p * v * B + r * B := by rw [← he, Nat.add_mul]
  have h6 : p * (v * B + v2) ≤ top * B + u2 := by omega
  have hVV : V ≤ (v * B + v2 + 1) * L := by omega
  have h7 : p * V ≤ p * ((v * B + v2 + 1) * L) := Nat.mul_le_mul_left p hVV
  have h8 : p * ((v * B + v2 + 1) * L) = p * (v * B + v2) * L + p * L := by rw [← Nat.mul_assoc, Nat.mul_add, Nat.mul_one, Nat.add_mul]
  have h9 : p * (v * B + v2) * L ≤ (top * B + u2) * L := Nat.mul_le_mul_right L h6
  have h10 : p * L ≤ B * L := Nat.mul_le_mul_right L (by omega)
  have h11 : B * L ≤ (v * B + v2) * L := Nat.mul_le_mul_right L (by
    have : 1 * B ≤ v * B := Nat.mul_le_mul_right B hv
    omega)
  have h12 : p * V < (q + 2) * V := by
    have : (q + 2) * V = (q + 1) * V + V := by rw [show q + 2 = q + 1 + 1 from rfl, Nat.add_mul (q + 1), Nat.one_mul]
    omega
  have := Nat.lt_of_mul_lt_mul_right h12
  omega

theorem sm_round {B : Nat} (R U V : List Nat) (i q u v c b s b' t : Nat) (hi : i < R.length) (hu : U.getD i 0 = u) (hv : V.getD i 0 = v) (ht : t = c + q * v) (hs : s + t % B + b = u + B * b') (h : dv B (R.take i) + dv B (V.take i) * q = dv B (U.take i) + B ^ i * (c + b)) :
    dv B ((R.set i s).take (i + 1)) + dv B (V.take (i + 1)) * q = dv B (U.take (i + 1)) + B ^ (i + 1) * (t / B + b') := by
  rw [set_step B R i _ hi, dv_take_getD, dv_take_getD, hu, hv, Nat.pow_succ]
  generalize B ^ i = P at *
  have h1 := congrArg (P * ·) hs
  have h2 := congrArg (P * ·) (Nat.mod_add_div t B)
  have h3 := congrArg (P * ·) ht
  simp only [Nat.mul_add, Nat.add_mul, ← Nat.mul_assoc] at *
  have e : P * v * q = P * q * v := by rw [Nat.mul_assoc, Nat.mul_comm v q, ← Nat.mul_assoc]
  omega
theorem sr_round {B S : Nat} (hS : 0 < S) (hSB : S ∣ B) (R A : List Nat) (i a c s : Nat) (hi : i < R.length) (ha : A[i]? = some a) (haB : a < B) (hc : c % S = dv B (A.drop (i + 1)) % S) (hs : s = ((c % B) * B + a) / S % B) (h : dv B (R.drop (i + 1)) = dv B (A.drop (i + 1)) / S) :
    dv B ((R.set i s).drop i) = dv B (A.drop i) / S ∧ ((c % B) * B + a) % S = dv B (A.drop i) % S := by
  have hg : (R.set i s)[i]? = some s := by rw [List.getElem?_set_self hi]
  rw [dv_drop_cons B _ i s hg, dv_drop_cons B A i a ha]
  have e1 : (R.set i s).drop (i + 1) = R.drop (i + 1) := by
    apply List.ext_getElem?
    intro q
    rw [List.getElem?_drop, List.getElem?_drop, List.getElem?_set_ne (by omega)]
  rw [e1, h]
  generalize dv B (A.drop (i + 1)) = X at *
  have hc' : (c % B) % S = X % S := by rw [Nat.mod_mod_of_dvd c hSB]; exact hc
  generalize c % B = d at *
  obtain ⟨K, rfl⟩ := hSB
  have hX := Nat.mod_add_div X S
  have hd := Nat.mod_add_div d S
  have hz : X % S < S := Nat.mod_lt _ hS
  rw [← hc'] at hX hz
  generalize d % S = z at *
  generalize d / S = y at *
  have hY : X / S = (X / S) := rfl
  generalize X / S = Y at *
  have e2 : d * (S * K) + a = S * (y * (S * K) + z * K) + a := by rw [← hd, Nat.add_mul, Nat.mul_add]; grind
  have e3 : a + S * K * X = S * (S * K * Y + z * K) + a := by rw [← hX]; grind
  rw [hs, e2, e3, Nat.mul_add_div hS, Nat.mul_add_div hS, Nat.mul_add_mod, Nat.mul_add_mod]
  refine ⟨?_, rfl⟩
  have h4 : z * K + a / S < S * K := by
    have h5 : a / S < K := Nat.div_lt_of_lt_mul haB
    have h6 : (z + 1) * K ≤ S * K := Nat.mul_le_mul_right K hz
    rw [Nat.add_mul] at h6
    omega
  rw [Nat.add_assoc, Nat.add_comm (y * (S * K)), Nat.add_mul_mod_self_right, Nat.mod_eq_of_lt h4]
  omega
theorem sl_carry {B S c x t : Nat} (hc : c < S) (hx : x < B) (ht : t = c + x * S) : t / B < S := by
  apply Nat.div_lt_of_lt_mul
  have h1 : (x + 1) * S ≤ B * S := Nat.mul_le_mul_right S hx
  rw [Nat.add_mul] at h1
  omega
theorem win_get {L T H : List Nat} {i d : Nat} (h : T[i]? = some d) : (L ++ T ++ H)[L.length + i]? = some d := by
  have hi := (List.getElem?_eq_some_iff.1 h).1
  rw [List.append_assoc, List.getElem?_append_right (by omega), Nat.add_sub_cancel_left, List.getElem?_append_left hi]
  exact h
theorem win_set (L T H : List Nat) (i d : Nat) (h : i < T.length) : (L ++ T ++ H).set (L.length + i) d = L ++ T.set i d ++ H := by
  rw [List.append_assoc, List.set_append_right _ _ (by omega), Nat.add_sub_cancel_left, List.set_append_left _ _ h, ← List.append_assoc]
/-- What the subtraction of a multiple leaves, and what is left when the divisor was added back. -/
theorem sm_end {U V : Nat} {P T q b : Nat} (hT : T < P) (_hU : U < P) (h : T + V * q = U + P * b) (hb : b ≤ 1) (hq : q = U / V ∨ q = U / V + 1) (hV : 0 < V) (_hVP : V < P) : (b = 0 → q = U / V ∧ T = U % V) ∧ (b = 1 → q = U / V + 1 ∧ T + V = U % V + P) := by
  have h1 := Nat.mod_add_div U V
  have h2 := Nat.mod_lt U hV
  rcases hq with e | e
  · rw [e] at h
    refine ⟨fun hb => ?_, fun hb => ?_⟩
    · subst hb; rw [e]; omega
    · subst hb; omega
  · rw [e, Nat.mul_add] at h
    refine ⟨fun hb => ?_, fun hb => ?_⟩
    · subst hb; omega
    · subst hb; rw [e]; omega
theorem ab_end {P T V R U2 c : Nat} (hU2 : U2 < P) (_h : R < V) (h1 : T + V = R + P) (_hVP : V < P) (h2 : U2 + P * c = T + V) (hc : c ≤ 1) : U2 = R := by
  rcases Nat.lt_or_ge 0 c with e | e
  · obtain rfl : c = 1 := by omega
    omega
  · obtain rfl : c = 0 := by omega
    omega
theorem div_round {B n j : Nat} {L W T H Q : List Nat} {V X q : Nat} (_hB : 0 < B) (hL : L.length = j) (hW : W.length = n + 1) (_hT : T.length = n + 1) (hWk : dok B W) (hj : j < Q.length) (hV : V ≤ B ^ n) (hinv : X = dv B (L ++ W ++ H) + B ^ (j + 1) * (dv B (Q.drop (j + 1)) * V)) (hlt : dv B ((L ++ W ++ H).drop (j + 1)) < V) (hq : q = dv B W / V) (hr : dv B T = dv B W % V) :
    X = dv B (L ++ T ++ H) + B ^ j * (dv B ((Q.set j q).drop j) * V) ∧ dv B ((L ++ T ++ H).drop j) < V ∧ dv B W < V * B ∧ q < B := by
  obtain ⟨d, W', rfl⟩ : ∃ d W', W = d :: W' := by
    match W, hW with
    | d :: W', _ => exact ⟨d, W', rfl⟩
  have hV0 : 0 < V := by omega
  have e1 : (L ++ (d :: W') ++ H).drop (j + 1) = W' ++ H := by
    rw [List.append_assoc, List.drop_append, hL, show j + 1 - j = 1 by omega, List.drop_eq_nil_of_le (by omega)]
    rfl
  have hWl : W'.length = n := by simpa using hW
  rw [e1, dv_app, hWl] at hlt
  have hH : dv B H = 0 := by
    rcases Nat.eq_zero_or_pos (dv B H) with e | e
    · exact e
    · have : B ^ n * 1 ≤ B ^ n * dv B H := Nat.mul_le_mul_left _ e
      omega
  have hd : d < B := hWk d (by simp)
  have hWV : dv B (d :: W') < V * B := by
    show d + B * dv B W' < V * B
    have h1 : B * (dv B W' + 1) ≤ B * V := Nat.mul_le_mul_left B (by omega)
    rw [Nat.mul_add, Nat.mul_comm B V] at h1
    omega
  have e2 : (Q.set j q).drop j = q :: Q.drop (j + 1) := by
    rw [List.drop_eq_getElem_cons (by rw [List.length_set]; exact hj), List.getElem_set_self]
    congr 1
    apply List.ext_getElem?
    intro i
    rw [List.getElem?_drop, List.getElem?_drop, List.getElem?_set_ne (by omega)]
  have e3 : (L ++ T ++ H).drop j = T ++ H := by
    rw [List.append_assoc, List.drop_append, hL, Nat.sub_self, List.drop_eq_nil_of_le (by omega)]
    rfl
  have hmd := Nat.mod_add_div (dv B (d :: W')) V
  rw [← hq, ← hr] at hmd
  refine ⟨?_, ?_, hWV, ?_⟩
  · rw [hinv, e2, List.append_assoc, List.append_assoc, dv_app, dv_app, dv_app, dv_app, hH, hL]
    show _ = _ + B ^ j * ((q + B * dv B (Q.drop (j + 1))) * V)
    rw [← hmd, Nat.pow_succ]
    grind
  · rw [e3, dv_app, hH, hr]
    have := Nat.mod_lt (dv B (d :: W')) hV0
    omega
  · rw [hq]
    exact Nat.div_lt_of_lt_mul hWV
theorem div_start {B n m S : Nat} {A E U V : List Nat} (hU : U.length = m + 1) (hA : dok B A) (hAl : A.length = m) (_hUk : dok B U) (hB : 0 < B) (hS : 0 < S) (hEl : E.length = n) (hn : 0 < n) (hnm : n ≤ m) (hEz : nmz E) (hUv : dv B U = dv B A * S) (hVv : dv B V = dv B E * S) : dv B (U.drop (m - n + 1)) < dv B V := by
  have h1 := dv_split B U (m - n + 1)
  rw [Nat.min_eq_left (by omega)] at h1
  have h2 := dv_lt hB A hA
  rw [hAl] at h2
  have h3 := nmz_low hB E hEz (by omega)
  rw [hEl] at h3
  rw [hVv]
  have h4 : B ^ (n - 1) * S ≤ dv B E * S := Nat.mul_le_mul_right S h3
  have h5 : dv B A * S < B ^ m * S := Nat.mul_lt_mul_of_pos_right h2 hS
  have h6 : B ^ m = B ^ (m - n + 1) * B ^ (n - 1) := by rw [← Nat.pow_add]; congr 1; omega
  have h7 : B ^ (m - n + 1) * dv B (U.drop (m - n + 1)) < B ^ (m - n + 1) * (B ^ (n - 1) * S) := by
    rw [← Nat.mul_assoc, ← h6]
    omega
  exact Nat.lt_of_lt_of_le (Nat.lt_of_mul_lt_mul_left h7) h4

/-- Only block 'g' has been written. -/
def OnlyB (w w' : World) (g : Nat) : Prop := (∀ g' T cs, g' ≠ g → Blk w g' T cs → Blk w' g' T cs) ∧ (∀ B0 w0, Below B0 w0 w → B0 ≤ g → Below B0 w0 w')
theorem OnlyB.refl (w : World) (g : Nat) : OnlyB w w g := ⟨fun _ _ _ _ h => h, fun _ _ h _ => h⟩
theorem OnlyB.trans {w w' w2 : World} {g : Nat} (h : OnlyB w w' g) (h2 : OnlyB w' w2 g) : OnlyB w w2 g := ⟨fun g' T cs hn hb => h2.1 g' T cs hn (h.1 g' T cs hn hb), fun B0 w0 hb hg => h2.2 B0 w0 (h.2 B0 w0 hb hg) hg⟩
theorem OnlyB.set {w : World} {g : Nat} {T : TypeId} {cs : Array Value} (h : Blk w g T cs) (j : Nat) (v : Value) : OnlyB w (w.setCell ⟨g, j, none⟩ v) g := ⟨fun g' T' cs' hn hb => (store_step h j v).2.1 g' T' cs' hn hb, fun B0 w0 hb hg => (store_step h j v).2.2 B0 w0 hb hg⟩
theorem and32 (t : Nat) (h : t < 18446744073709551616) : bits BinOp.and IntKind.u64 (t : Int) 4294967295 = ((t % 4294967296 : Nat) : Int) := by
  have h1 := bits_and_u64_nat t 4294967295 h (by decide)
  rw [show (4294967295 : Nat) = 2 ^ 32 - 1 from rfl, Nat.and_two_pow_sub_one_eq_mod] at h1
  exact h1
set_option maxRecDepth 100000 in
set_option maxHeartbeats 4000000 in
theorem subMul_any (g gv k cu m cv q : Nat) (L U H V : List Nat) (w : World) (hb : Blk w g 86 (dc (L ++ U ++ H))) (hU : U.length = k) (hUd : dok 4294967296 U) (hv : Blk w gv 86 (dc V)) (hVd : dok 4294967296 V) (hm : m ≤ V.length) (hgv : gv ≠ g) (hmk : m < k) (hk : k ≤ 100000) (_hL : L.length ≤ 100000) (hq : q < 4294967296) :
    Calls Try.prog 90 #[.slice (some ⟨g, L.length, none⟩) k cu, .slice (some ⟨gv, 0, none⟩) m cv, .int .u64 (q : Int)] w fun e w' => ∃ (T : List Nat) (b : Nat), e = .returned (.bool (decide (b ≠ 0))) ∧ b ≤ 1 ∧ T.length = k ∧ dok 4294967296 T ∧ Blk w' g 86 (dc (L ++ T ++ H)) ∧ dv 4294967296 T + dv 4294967296 (V.take m) * q = dv 4294967296 U + 4294967296 ^ k * b ∧ OnlyB w w' g := by
  have HBK := Lib.hid hb
  have HUL := Lib.hid hU
  have HUD := Lib.hid hUd
  have HV := Lib.hid hv
  have HVD := Lib.hid hVd
  have HML := Lib.hid hm
  have HGV := Lib.hid hgv
  obtain ⟨E, hE⟩ : ∃ E, V.take m = E := ⟨_, rfl⟩
  rw [hE]
  have HE := Lib.hid hE
  obtain ⟨l, hl⟩ : ∃ l, L.length = l := ⟨_, rfl⟩
  rw [hl] at _hL ⊢
  have HLL := Lib.hid hl
  clear hb hU hUd hv hVd hm hgv hE hl
  have hqI : (q : Int) < 4294967296 := by omega
  go_enter Try.func90, Try.ntmps90
  go_wp2
  go_loopw [7, 8, 9, 10, 13] (fun s7 s8 _ _ s13 wr => ∃ (i c b : Nat) (T : List Nat), s7 = .int .u64 (c : Int) ∧ s8 = .int .u64 (b : Int) ∧ s13 = .int .i64 (i : Int) ∧ i ≤ k ∧ c < 4294967296 ∧ b ≤ 1 ∧ (m < i → c = 0) ∧ T.length = k ∧ dok 4294967296 T ∧ T.drop i = U.drop i ∧ dv 4294967296 (T.take i) + dv 4294967296 (E.take i) * q = dv 4294967296 (U.take i) + 4294967296 ^ i * (c + b) ∧ Blk wr g 86 (dc (L ++ T ++ H)) ∧ OnlyB w wr g) (fun _ _ _ _ s13 _ => k - (intOf s13).toNat)
  case atStart => exact ⟨0, 0, 0, U, rfl, rfl, rfl, Nat.zero_le _, by decide, by decide, by omega, HUL.out, HUD.out, rfl, by simp [dv], HBK.out, OnlyB.refl _ _⟩
  case round =>
    obtain ⟨i, c, b, T, rfl, rfl, rfl, hik, hc, hb1, hc0, hTl, hTd, hdr, hinv, hblk, honly⟩ := hrel
    have HI := Lib.hid hinv
    have HT := Lib.hid hTd
    have HTL := Lib.hid hTl
    have HDR := Lib.hid hdr
    have HB := Lib.hid hblk
    have HO := Lib.hid honly
    have HC0 := Lib.hid hc0
    clear hinv hTd hTl hdr hblk honly HBK hc0
    have hcI : (c : Int) < 4294967296 := by omega
    have hbI : (b : Int) ≤ 1 := by omega
    by_cases hlt : i < k
    · have hltI : (i : Int) < (k : Int) := by omega
      obtain ⟨u, hu⟩ : ∃ d, U[i]? = some d := ⟨_, List.getElem?_eq_getElem (by rw [HUL.out]; exact hlt)⟩
      have huT : T[i]? = some u := by
        have h1 : (T.drop i)[0]? = (U.drop i)[0]? := by rw [HDR.out]
        rw [List.getElem?_drop, List.getElem?_drop] at h1
        simpa [hu] using h1
      have huB := dok_at HUD.out hu
      have hwin : (L ++ T ++ H)[l + i]? = some u := by rw [← HLL.out]; exact win_get huT
      have c9 : wr.cell? ⟨g, l + i, none⟩ = some (.int .u32 (u : Int)) := (HB.out.cell _).trans (dc_get hwin)
      have f9 : wr.frozen? ⟨g, l + i, none⟩ = false := Joins.unfrozen_of_block HB.out _
      have HUt := Lib.hid (show U.getD i 0 = u by simp [List.getD, hu])
      have HN := Lib.hid (fun e (he : E.getD i 0 = e) (t lo s' b' : Nat) (x y z : Int) (ht : t = c + q * e) (hlo : lo = t % 4294967296) (hx : x = ((t / 4294967296 : Nat) : Int)) (hy : y = (b' : Int)) (hz : z = (s' : Int)) (hs : s' + lo + b = u + 4294967296 * b') (hs2 : s' < 4294967296) (hb' : b' ≤ 1) (htB : t < 18446744073709551616) (hm0 : m ≤ i → t < 4294967296) => show ∃ (i' c' b2 : Nat) (T' : List Nat), Value.int .u64 x = .int .u64 (c' : Int) ∧ Value.int .u64 y = .int .u64 (b2 : Int) ∧ Value.int .i64 ((i : Int) + 1) = .int .i64 (i' : Int) ∧ i' ≤ k ∧ c' < 4294967296 ∧ b2 ≤ 1 ∧ (m < i' → c' = 0) ∧ T'.length = k ∧ dok 4294967296 T' ∧ T'.drop i' = U.drop i' ∧ dv 4294967296 (T'.take i') + dv 4294967296 (E.take i') * q = dv 4294967296 (U.take i') + 4294967296 ^ i' * (c' + b2) ∧ Blk (wr.setCell ⟨g, l + i, none⟩ (.int .u32 z)) g 86 (dc (L ++ T' ++ H)) ∧ OnlyB w (wr.setCell ⟨g, l + i, none⟩ (.int .u32 z)) g from by
        subst hx hy hz
        have htl := HTL.out
        refine ⟨i + 1, t / 4294967296, b', T.set i s', rfl, rfl, by go_num, by omega, by omega, hb', fun h => by have := hm0 (by omega); omega, by rw [List.length_set]; exact htl, dok_set HT.out _ _ hs2, ?_, sm_round T U E i q u e c b s' b' t (by omega) HUt.out he ht (by rw [← hlo]; exact hs) HI.out, ?_, HO.out.trans (OnlyB.set HB.out _ _)⟩
        · have h1 := congrArg (List.drop 1) HDR.out
          rw [List.drop_drop, List.drop_drop] at h1
          rw [← h1]
          apply List.ext_getElem?
          intro q
          rw [List.getElem?_drop, List.getElem?_drop, List.getElem?_set_ne (by omega)]
        · rw [← win_set L T H i s' (by omega), HLL.out, ← dc_set]
          exact (store_step HB.out (l + i) _).1)
      clear hu huT hwin
      by_cases hlm : i < m
      · have hlmI : (i : Int) < (m : Int) := by omega
        obtain ⟨e, he⟩ : ∃ d, E[i]? = some d := ⟨_, List.getElem?_eq_getElem (by rw [← HE.out, List.length_take]; have := HML.out; omega)⟩
        have heV : V[i]? = some e := by
          rw [← HE.out, List.getElem?_take, if_pos hlm] at he
          exact he
        have heB := dok_at HVD.out heV
        have c1 : wr.cell? ⟨gv, i, none⟩ = some (.int .u32 (e : Int)) := ((HO.out.1 _ _ _ HGV.out HV.out).cell _).trans (dc_get heV)
        have HEt := Lib.hid (show E.getD i 0 = e by simp [List.getD, he])
        obtain ⟨p, hp⟩ : ∃ p, p = q * e := ⟨_, rfl⟩
        have hpb : p ≤ 18446744065119617025 := by
          rw [hp]
          exact Nat.le_trans (Nat.mul_le_mul (by omega : q ≤ 4294967295) (by omega : e ≤ 4294967295)) (by decide)
        have hpI : (q : Int) * (e : Int) = (p : Int) := by rw [hp]; simp
        have hpbI : (p : Int) ≤ 18446744065119617025 := by omega
        have HP := Lib.hid hp
        obtain ⟨t, ht⟩ : ∃ t, t = c + p := ⟨_, rfl⟩
        have htI : (c : Int) + (p : Int) = (t : Int) := by omega
        have htb : t < 18446744073709551616 := by omega
        have htbI : (t : Int) ≤ 18446744073709551615 := by omega
        have HTT := Lib.hid ht
        clear he heV hp ht
        go_wp2
        go_roundw
        case rel =>
          rw [and32 _ (by omega)]
          obtain ⟨lo, hlo⟩ : ∃ lo, lo = t % 4294967296 := ⟨_, rfl⟩
          have hlo2 : lo < 4294967296 := by omega
          rw [← hlo]
          by_cases h2 : lo + b ≤ u
          · exact HN.out e HEt.out t lo (u - lo - b) 0 _ _ _ (by rw [HTT.out, HP.out]) hlo (by omega) (by simp only [IntKind.wrap_u64]; omega) (by simp only [IntKind.wrap_u64]; omega) (by omega) (by omega) (by decide) (by omega) (fun h => by omega)
          · exact HN.out e HEt.out t lo (u + 4294967296 - lo - b) 1 _ _ _ (by rw [HTT.out, HP.out]) hlo (by omega) (by simp only [IntKind.wrap_u64]; omega) (by simp only [IntKind.wrap_u64]; omega) (by omega) (by omega) (by decide) (by omega) (fun h => by omega)
        case measure => simp only [intOf]; rw [show ((i : Int) + 1).toNat = i + 1 by omega]; omega
      · have hlmI : ¬ (i : Int) < (m : Int) := by omega
        have HEt := Lib.hid (show E.getD i 0 = 0 by simp [List.getD, List.getElem?_eq_none_iff.2 (show E.length ≤ i by rw [← HE.out, List.length_take]; omega)])
        go_wp2
        go_roundw
        case rel =>
          rw [and32 _ (by omega)]
          obtain ⟨lo, hlo⟩ : ∃ lo, lo = c % 4294967296 := ⟨_, rfl⟩
          have hlo2 : lo < 4294967296 := by omega
          rw [← hlo]
          by_cases h2 : lo + b ≤ u
          · exact HN.out 0 HEt.out c lo (u - lo - b) 0 _ _ _ (by simp) hlo (by omega) (by simp only [IntKind.wrap_u64]; omega) (by simp only [IntKind.wrap_u64]; omega) (by omega) (by omega) (by decide) (by omega) (fun h => by omega)
          · exact HN.out 0 HEt.out c lo (u + 4294967296 - lo - b) 1 _ _ _ (by simp) hlo (by omega) (by simp only [IntKind.wrap_u64]; omega) (by simp only [IntKind.wrap_u64]; omega) (by omega) (by omega) (by decide) (by omega) (fun h => by omega)
        case measure => simp only [intOf]; rw [show ((i : Int) + 1).toNat = i + 1 by omega]; omega
    · have hltI : ¬ (i : Int) < (k : Int) := by omega
      obtain rfl : i = k := by omega
      have hcz : c = 0 := HC0.out hmk
      have HF := Lib.hid (show dv 4294967296 T + dv 4294967296 E * q = dv 4294967296 U + 4294967296 ^ i * b by
        have h1 := HI.out
        rw [List.take_of_length_le (show T.length ≤ i by rw [HTL.out]; exact Nat.le_refl _), List.take_of_length_le (show E.length ≤ i by rw [← HE.out, List.length_take]; omega), List.take_of_length_le (show U.length ≤ i by rw [HUL.out]; exact Nat.le_refl _), hcz, Nat.zero_add] at h1
        exact h1)
      have hbv : b = 0 ∨ b = 1 := by omega
      clear hcz
      rcases hbv with rfl | rfl
      · go_wp2
        go_ret
        exact ⟨T, 0, rfl, by decide, HTL.out, HT.out, by simpa [List.append_assoc] using HB.out, HF.out, HO.out⟩
      · go_wp2
        go_ret
        exact ⟨T, 1, rfl, by decide, HTL.out, HT.out, by simpa [List.append_assoc] using HB.out, HF.out, HO.out⟩

set_option maxRecDepth 100000 in
set_option maxHeartbeats 4000000 in
theorem addBack_any (g gv k cu m cv : Nat) (L U H V : List Nat) (w : World) (hb : Blk w g 86 (dc (L ++ U ++ H))) (hU : U.length = k) (hUd : dok 4294967296 U) (hv : Blk w gv 86 (dc V)) (hVd : dok 4294967296 V) (hm : m ≤ V.length) (hgv : gv ≠ g) (hmk : m < k) (hk : k ≤ 100000) (_hL : L.length ≤ 100000) :
    Calls Try.prog 91 #[.slice (some ⟨g, L.length, none⟩) k cu, .slice (some ⟨gv, 0, none⟩) m cv] w fun e w' => ∃ (T : List Nat) (c : Nat), e = .returned (.tuple #[]) ∧ c ≤ 1 ∧ T.length = k ∧ dok 4294967296 T ∧ Blk w' g 86 (dc (L ++ T ++ H)) ∧ dv 4294967296 T + 4294967296 ^ k * c = dv 4294967296 U + dv 4294967296 (V.take m) ∧ OnlyB w w' g := by
  have HBK := Lib.hid hb
  have HUL := Lib.hid hU
  have HUD := Lib.hid hUd
  have HV := Lib.hid hv
  have HVD := Lib.hid hVd
  have HML := Lib.hid hm
  have HGV := Lib.hid hgv
  obtain ⟨E, hE⟩ : ∃ E, V.take m = E := ⟨_, rfl⟩
  rw [hE]
  have HE := Lib.hid hE
  obtain ⟨l, hl⟩ : ∃ l, L.length = l := ⟨_, rfl⟩
  rw [hl] at _hL ⊢
  have HLL := Lib.hid hl
  clear hb hU hUd hv hVd hm hgv hE hl
  go_enter Try.func91, Try.ntmps91
  go_wp2
  go_loopw [4, 5, 8] (fun s4 _ s8 wr => ∃ (i c : Nat) (T : List Nat), s4 = .int .u64 (c : Int) ∧ s8 = .int .i64 (i : Int) ∧ i ≤ k ∧ c ≤ 1 ∧ T.length = k ∧ dok 4294967296 T ∧ T.drop i = U.drop i ∧ dv 4294967296 (T.take i) + 4294967296 ^ i * c = dv 4294967296 (U.take i) + dv 4294967296 (E.take i) ∧ Blk wr g 86 (dc (L ++ T ++ H)) ∧ OnlyB w wr g) (fun _ _ s8 _ => k - (intOf s8).toNat)
  case atStart => exact ⟨0, 0, U, rfl, rfl, Nat.zero_le _, by decide, HUL.out, HUD.out, rfl, by simp [dv], HBK.out, OnlyB.refl _ _⟩
  case round =>
    obtain ⟨i, c, T, rfl, rfl, hik, hc, hTl, hTd, hdr, hinv, hblk, honly⟩ := hrel
    have HI := Lib.hid hinv
    have HT := Lib.hid hTd
    have HTL := Lib.hid hTl
    have HDR := Lib.hid hdr
    have HB := Lib.hid hblk
    have HO := Lib.hid honly
    clear hinv hTd hTl hdr hblk honly HBK
    have hcI : (c : Int) ≤ 1 := by omega
    by_cases hlt : i < k
    · have hltI : (i : Int) < (k : Int) := by omega
      obtain ⟨u, hu⟩ : ∃ d, U[i]? = some d := ⟨_, List.getElem?_eq_getElem (by rw [HUL.out]; exact hlt)⟩
      have huT : T[i]? = some u := by
        have h1 : (T.drop i)[0]? = (U.drop i)[0]? := by rw [HDR.out]
        rw [List.getElem?_drop, List.getElem?_drop] at h1
        simpa [hu] using h1
      have huB := dok_at HUD.out hu
      have hwin : (L ++ T ++ H)[l + i]? = some u := by rw [← HLL.out]; exact win_get huT
      have c9 : wr.cell? ⟨g, l + i, none⟩ = some (.int .u32 (u : Int)) := (HB.out.cell _).trans (dc_get hwin)
      have f9 : wr.frozen? ⟨g, l + i, none⟩ = false := Joins.unfrozen_of_block HB.out _
      have HUt := Lib.hid (show U.getD i 0 = u by simp [List.getD, hu])
      have HN := Lib.hid (fun e (he : E.getD i 0 = e) (heB : e < 4294967296) (t : Nat) (x z : Int) (ht : t = c + u + e) (hx : x = ((t / 4294967296 : Nat) : Int)) (hz : z = ((t % 4294967296 : Nat) : Int)) => show ∃ (i' c' : Nat) (T' : List Nat), Value.int .u64 x = .int .u64 (c' : Int) ∧ Value.int .i64 ((i : Int) + 1) = .int .i64 (i' : Int) ∧ i' ≤ k ∧ c' ≤ 1 ∧ T'.length = k ∧ dok 4294967296 T' ∧ T'.drop i' = U.drop i' ∧ dv 4294967296 (T'.take i') + 4294967296 ^ i' * c' = dv 4294967296 (U.take i') + dv 4294967296 (E.take i') ∧ Blk (wr.setCell ⟨g, l + i, none⟩ (.int .u32 z)) g 86 (dc (L ++ T' ++ H)) ∧ OnlyB w (wr.setCell ⟨g, l + i, none⟩ (.int .u32 z)) g from by
        subst hx hz
        have htl := HTL.out
        refine ⟨i + 1, t / 4294967296, T.set i (t % 4294967296), rfl, by go_num, by omega, by omega, by rw [List.length_set]; exact htl, dok_set HT.out _ _ (Nat.mod_lt _ (by decide)), ?_, by rw [ht]; exact add_round T U E i c u e (by omega) HUt.out he HI.out, ?_, HO.out.trans (OnlyB.set HB.out _ _)⟩
        · have h1 := congrArg (List.drop 1) HDR.out
          rw [List.drop_drop, List.drop_drop] at h1
          rw [← h1]
          apply List.ext_getElem?
          intro q
          rw [List.getElem?_drop, List.getElem?_drop, List.getElem?_set_ne (by omega)]
        · rw [← win_set L T H i _ (by omega), HLL.out, ← dc_set]
          exact (store_step HB.out (l + i) _).1)
      clear hu huT hwin
      by_cases hlm : i < m
      · have hlmI : (i : Int) < (m : Int) := by omega
        obtain ⟨e, he⟩ : ∃ d, E[i]? = some d := ⟨_, List.getElem?_eq_getElem (by rw [← HE.out, List.length_take]; have := HML.out; omega)⟩
        have heV : V[i]? = some e := by
          rw [← HE.out, List.getElem?_take, if_pos hlm] at he
          exact he
        have heB := dok_at HVD.out heV
        have c1 : wr.cell? ⟨gv, i, none⟩ = some (.int .u32 (e : Int)) := ((HO.out.1 _ _ _ HGV.out HV.out).cell _).trans (dc_get heV)
        have HEt := Lib.hid (show E.getD i 0 = e by simp [List.getD, he])
        clear he heV
        go_wp2
        go_roundw
        case rel => exact HN.out e HEt.out heB (c + u + e) _ _ rfl (by omega) (by omega)
        case measure => simp only [intOf]; rw [show ((i : Int) + 1).toNat = i + 1 by omega]; omega
      · have hlmI : ¬ (i : Int) < (m : Int) := by omega
        have HEt := Lib.hid (show E.getD i 0 = 0 by simp [List.getD, List.getElem?_eq_none_iff.2 (show E.length ≤ i by rw [← HE.out, List.length_take]; omega)])
        go_wp2
        go_roundw
        case rel => exact HN.out 0 HEt.out (by decide) (c + u + 0) _ _ rfl (by omega) (by omega)
        case measure => simp only [intOf]; rw [show ((i : Int) + 1).toNat = i + 1 by omega]; omega
    · have hltI : ¬ (i : Int) < (k : Int) := by omega
      obtain rfl : i = k := by omega
      have HF := Lib.hid (show dv 4294967296 T + 4294967296 ^ i * c = dv 4294967296 U + dv 4294967296 E by
        have h1 := HI.out
        rw [List.take_of_length_le (show T.length ≤ i by rw [HTL.out]; exact Nat.le_refl _), List.take_of_length_le (show E.length ≤ i by rw [← HE.out, List.length_take]; omega), List.take_of_length_le (show U.length ≤ i by rw [HUL.out]; exact Nat.le_refl _)] at h1
        exact h1)
      go_wp2
      go_end0
      exact ⟨rfl, T, c, hc, HTL.out, HT.out, by simpa [List.append_assoc] using HB.out, HF.out, HO.out⟩
theorem orS (k d s : Nat) (hk : k < 2 ^ s) (hs : s < 32) (hd : d < 4294967296) : bits BinOp.or IntKind.u64 (k : Int) (IntKind.u64.wrap ((d : Int) * 2 ^ s)) = ((k + d * 2 ^ s : Nat) : Int) := by
  have h1 : (2 : Nat) ^ s ≤ 2147483648 := Nat.pow_le_pow_right (by decide) (by omega : s ≤ 31)
  have h2 : d * 2 ^ s ≤ 4294967295 * 2147483648 := Nat.mul_le_mul (by omega) h1
  have h3 : ((d : Int) * 2 ^ s) = ((d * 2 ^ s : Nat) : Int) := by push_cast; rfl
  have h4 : IntKind.u64.wrap ((d * 2 ^ s : Nat) : Int) = ((d * 2 ^ s : Nat) : Int) := by rw [IntKind.wrap_u64]; omega
  rw [h3, h4, bits_join_low .u64 64 (by decide) wraps_u64 s _ _ (by omega) (by exact_mod_cast hk) (by omega) (by omega) (by rw [show ((2 : Int) ^ s) = ((2 ^ s : Nat) : Int) by push_cast; rfl, ← Int.natCast_emod, Nat.mul_mod_left]; rfl) (by omega)]
  omega
set_option maxRecDepth 100000 in
set_option maxHeartbeats 4000000 in
theorem shiftLeft_any (A : Option Addr) (n c s : Nat) (D : List Nat) (w : World) (h : DG w A n D) (hn : n ≤ 100000) (hs : s < 32) :
    Calls Try.prog 86 #[.slice A n c, .int .u64 (s : Int)] w fun e w' => ∃ g R, e = .returned (.slice (some ⟨g, 0, none⟩) (n + 1) (n + 1)) ∧ Blk w' g 86 (dc R) ∧ w.heap.size ≤ g ∧ dok 4294967296 R ∧ dv 4294967296 R = dv 4294967296 D * 2 ^ s ∧ R.length = n + 1 ∧ Below w.heap.size w w' := by
  have HA := Lib.hid h.at
  have HL := Lib.hid h.1
  have HD := Lib.hid h.2.1
  clear h
  have hsI : (s : Int) < 32 := by omega
  obtain ⟨S, hS⟩ : ∃ S : Nat, S = 2 ^ s := ⟨_, rfl⟩
  have HS := Lib.hid hS
  have hS0 : 0 < S := by rw [hS]; exact Nat.pow_pos (by decide)
  have hSB : S ≤ 2147483648 := by rw [hS]; exact Nat.pow_le_pow_right (by decide) (by omega : s ≤ 31)
  rw [← hS]
  clear hS
  have hmk := make32 (n + 1) (by omega) w
  obtain ⟨W0, hW0⟩ : ∃ W, W = w.alloc (.cells (dc (List.replicate (n + 1) 0)) 86) := ⟨_, rfl⟩
  rw [← hW0] at hmk
  have HB0 := Lib.hid (show Below w.heap.size w W0 by rw [hW0]; exact (Below.refl _ w).alloc (Nat.le_refl _) _)
  have HK0 := Lib.hid (show Blk W0 w.heap.size 86 (dc (List.replicate (n + 1) 0)) by rw [hW0]; exact Blk.new _ _ _)
  have hn1 : ((n + 1 : Nat) : Int) = (n : Int) + 1 := by omega
  rw [hn1] at hmk
  clear hW0
  go_enter Try.func86, Try.ntmps86
  go_wp2
  clear hmk
  obtain ⟨g, hg⟩ : ∃ g, w.heap.size = g := ⟨_, rfl⟩
  have HG := Lib.hid (show w.heap.size ≤ g by omega)
  rw [hg] at HK0 ⊢
  clear hg hn1
  go_loopw [6, 7, 8, 15] (fun s6 _ _ s15 wr => ∃ (i c : Nat) (R : List Nat), s6 = .int .u64 (c : Int) ∧ s15 = .int .i64 (i : Int) ∧ i ≤ n ∧ c < S ∧ R.length = n + 1 ∧ dok 4294967296 R ∧ dv 4294967296 (R.take i) + 4294967296 ^ i * c = dv 4294967296 (D.take i) * S ∧ Blk wr g 86 (dc R) ∧ Below w.heap.size w wr) (fun _ _ _ s15 _ => n - (intOf s15).toNat)
  case atStart => exact ⟨0, 0, _, rfl, rfl, Nat.zero_le _, hS0, by simp, dok_rep (by decide) _, by simp [dv], HK0.out, HB0.out⟩
  case round =>
    obtain ⟨i, k, R, rfl, rfl, hin, hk, hRl, hRd, hinv, hblk, hb⟩ := hrel
    have HI := Lib.hid hinv
    have HR := Lib.hid hRd
    have HK := Lib.hid hblk
    have HBW := Lib.hid hb
    have HRL := Lib.hid hRl
    clear hinv hRd hblk hb hRl HK0 HB0
    by_cases hlt : i < n
    · have hlti : (i : Int) < n := by omega
      have hltn : (i : Int) < (n : Int) + 1 := by omega
      obtain ⟨d, hd⟩ : ∃ d, D[i]? = some d := ⟨_, List.getElem?_eq_getElem (by have := HL.out; omega)⟩
      have hdB := dok_at HD.out hd
      obtain ⟨b, off, eA, hbl, hcell⟩ := HA.out (by omega)
      have c0 := hcell wr HBW.out i d hd
      have HDt := Lib.hid (show D.getD i 0 = d by simp [List.getD, hd])
      obtain ⟨o, ho⟩ : ∃ o, R[i]? = some o := ⟨_, List.getElem?_eq_getElem (by have := HRL.out; omega)⟩
      have c9 : wr.cell? ⟨g, i, none⟩ = some (.int .u32 (o : Int)) := (HK.out.cell _).trans (dc_get ho)
      have f9 : wr.frozen? ⟨g, i, none⟩ = false := Joins.unfrozen_of_block HK.out _
      clear hcell hd ho
      subst eA
      have HSS := Lib.hid HS.out
      obtain ⟨t, ht⟩ : ∃ t, t = k + d * S := ⟨_, rfl⟩
      have HOR := Lib.hid (show bits BinOp.or IntKind.u64 (k : Int) (IntKind.u64.wrap ((d : Int) * 2 ^ s)) = (t : Int) by
        rw [ht, HS.out]
        exact orS k d s (by rw [← HS.out]; exact hk) hs hdB)
      have hcS := sl_carry (B := 4294967296) hk hdB ht
      have HT2 := Lib.hid ht
      have HN := Lib.hid (fun (x z : Int) (hx : x = ((t / 4294967296 : Nat) : Int)) (hz : z = ((t % 4294967296 : Nat) : Int)) => show ∃ (i' c' : Nat) (R' : List Nat), Value.int .u64 x = .int .u64 (c' : Int) ∧ Value.int .i64 ((i : Int) + 1) = .int .i64 (i' : Int) ∧ i' ≤ n ∧ c' < S ∧ R'.length = n + 1 ∧ dok 4294967296 R' ∧ dv 4294967296 (R'.take i') + 4294967296 ^ i' * c' = dv 4294967296 (D.take i') * S ∧ Blk (wr.setCell ⟨g, i, none⟩ (.int .u32 z)) g 86 (dc R') ∧ Below w.heap.size w (wr.setCell ⟨g, i, none⟩ (.int .u32 z)) from by
        subst hx hz
        have hrl := HRL.out
        refine ⟨i + 1, t / 4294967296, R.set i (t % 4294967296), rfl, by go_num, by omega, hcS, by rw [List.length_set]; exact hrl, dok_set HR.out _ _ (Nat.mod_lt _ (by decide)), ?_, ?_, (store_step HK.out i _).2.2 _ _ HBW.out HG.out⟩
        · have := tp_round (B := 4294967296) (nn := 0) R D i k d S t (by omega) HDt.out HT2.out (by rw [Nat.add_zero]; exact HI.out)
          rw [Nat.add_zero] at this
          exact this
        · rw [← dc_set]; exact (store_step HK.out i _).1)
      clear ht hcS
      go_wp2
      go_roundw
      case rel => rw [HOR.out]; exact HN.out _ _ (by omega) (by omega)
      case measure => simp only [intOf]; rw [show ((i : Int) + 1).toNat = i + 1 by omega]; omega
    · have hlti : ¬ (i : Int) < n := by omega
      obtain rfl : i = n := by omega
      obtain ⟨o, ho⟩ : ∃ o, R[i]? = some o := ⟨_, List.getElem?_eq_getElem (by have := HRL.out; omega)⟩
      have c9 : wr.cell? ⟨g, i, none⟩ = some (.int .u32 (o : Int)) := (HK.out.cell _).trans (dc_get ho)
      have f9 : wr.frozen? ⟨g, i, none⟩ = false := Joins.unfrozen_of_block HK.out _
      have hltn : (i : Int) < (i : Int) + 1 := by omega
      have wk : IntKind.u32.wrap (k : Int) = (k : Int) := by rw [IntKind.wrap_u32]; omega
      have HF := Lib.hid (show dv 4294967296 (R.set i k) = dv 4294967296 D * S by
        have h1 := HI.out
        rw [List.take_of_length_le (show D.length ≤ i by rw [HL.out]; exact Nat.le_refl _)] at h1
        have h2 := set_step 4294967296 R i k (by rw [HRL.out]; omega)
        rw [List.take_of_length_le (show (R.set i k).length ≤ i + 1 by rw [List.length_set, HRL.out]; exact Nat.le_refl _)] at h2
        omega)
      have HKF := Lib.hid (show Blk (wr.setCell ⟨g, i, none⟩ (.int .u32 (k : Int))) g 86 (dc (R.set i k)) by rw [← dc_set]; exact (store_step HK.out i _).1)
      have HBF := Lib.hid ((store_step HK.out i (.int .u32 (k : Int))).2.2 _ _ HBW.out HG.out)
      have HRF := Lib.hid (dok_set HR.out i k (by omega))
      have HLF := Lib.hid (show (R.set i k).length = i + 1 by rw [List.length_set]; exact HRL.out)
      clear ho
      go_wp2
      go_ret
      exact ⟨g, rfl, R.set i k, HKF.out, HG.out, HRF.out, HF.out, HLF.out, HBF.out⟩
theorem shlT (c : Nat) : IntKind.u64.wrap ((c : Int) * 4294967296) = (((c % 4294967296) * 4294967296 : Nat) : Int) := by
  rw [IntKind.wrap_u64]
  omega
set_option maxRecDepth 100000 in
set_option maxHeartbeats 4000000 in
theorem shiftRight_any (A : Option Addr) (n c s : Nat) (D : List Nat) (w : World) (h : DG w A n D) (hn : n ≤ 100000) (hs : s < 32) :
    Calls Try.prog 88 #[.slice A n c, .int .u64 (s : Int)] w fun e w' => ∃ g R, e = .returned (.slice (some ⟨g, 0, none⟩) n n) ∧ Blk w' g 86 (dc R) ∧ w.heap.size ≤ g ∧ dok 4294967296 R ∧ dv 4294967296 R = dv 4294967296 D / 2 ^ s ∧ R.length = n ∧ Below w.heap.size w w' := by
  have HA := Lib.hid h.at
  have HL := Lib.hid h.1
  have HD := Lib.hid h.2.1
  clear h
  have hsI : (s : Int) < 32 := by omega
  obtain ⟨S, hS⟩ : ∃ S : Nat, S = 2 ^ s := ⟨_, rfl⟩
  have HS := Lib.hid hS
  have hS0 : 0 < S := by rw [hS]; exact Nat.pow_pos (by decide)
  have HSB := Lib.hid (show S ∣ 4294967296 by rw [hS]; exact Nat.pow_dvd_pow 2 (by omega : s ≤ 32))
  rw [← hS]
  clear hS
  have hmk := make32 n (by omega) w
  obtain ⟨W0, hW0⟩ : ∃ W, W = w.alloc (.cells (dc (List.replicate n 0)) 86) := ⟨_, rfl⟩
  rw [← hW0] at hmk
  have HB0 := Lib.hid (show Below w.heap.size w W0 by rw [hW0]; exact (Below.refl _ w).alloc (Nat.le_refl _) _)
  have HK0 := Lib.hid (show Blk W0 w.heap.size 86 (dc (List.replicate n 0)) by rw [hW0]; exact Blk.new _ _ _)
  clear hW0
  go_enter Try.func88, Try.ntmps88
  go_wp2
  clear hmk
  obtain ⟨g, hg⟩ : ∃ g, w.heap.size = g := ⟨_, rfl⟩
  have HG := Lib.hid (show w.heap.size ≤ g by omega)
  rw [hg] at HK0 ⊢
  clear hg
  go_loopw [6, 7] (fun s6 s7 wr => ∃ (i c : Nat) (x : Int) (R : List Nat), s6 = .int .u64 (c : Int) ∧ s7 = .int .i64 x ∧ x = (i : Int) - 1 ∧ i ≤ n ∧ c < 18446744073709551616 ∧ c % S = dv 4294967296 (D.drop i) % S ∧ R.length = n ∧ dok 4294967296 R ∧ dv 4294967296 (R.drop i) = dv 4294967296 (D.drop i) / S ∧ Blk wr g 86 (dc R) ∧ Below w.heap.size w wr) (fun _ s7 _ => (intOf s7 + 1).toNat)
  case atStart => exact ⟨n, 0, _, _, rfl, rfl, rfl, Nat.le_refl _, by decide, by rw [List.drop_of_length_le (by rw [HL.out]; exact Nat.le_refl _)]; rfl, by simp, dok_rep (by decide) _, by rw [List.drop_of_length_le (by simp), List.drop_of_length_le (show D.length ≤ n by rw [HL.out]; exact Nat.le_refl _)]; simp [dv], HK0.out, HB0.out⟩
  case round =>
    obtain ⟨i, k, x, R, rfl, rfl, hx, hin, hk, hkm, hRl, hRd, hinv, hblk, hb⟩ := hrel
    have HI := Lib.hid hinv
    have HM := Lib.hid hkm
    have HR := Lib.hid hRd
    have HK := Lib.hid hblk
    have HBW := Lib.hid hb
    have HRL := Lib.hid hRl
    clear hinv hkm hRd hblk hb hRl HK0 HB0
    rcases Nat.eq_zero_or_pos i with h0 | h0
    · subst h0
      obtain rfl : x = -1 := by omega
      clear hx
      have HF := Lib.hid (show dv 4294967296 R = dv 4294967296 D / S by simpa using HI.out)
      go_wp2
      go_ret
      exact ⟨g, R, rfl, HK.out, HG.out, HR.out, HF.out, HRL.out, HBW.out⟩
    · obtain ⟨j, rfl⟩ : ∃ j, i = j + 1 := ⟨i - 1, by omega⟩
      obtain rfl : x = (j : Int) := by omega
      clear hx h0
      have hjn : (j : Int) < (n : Int) := by omega
      have hj0 : (0 : Int) ≤ (j : Int) := by omega
      obtain ⟨d, hd⟩ : ∃ d, D[j]? = some d := ⟨_, List.getElem?_eq_getElem (by have := HL.out; omega)⟩
      have hdB := dok_at HD.out hd
      obtain ⟨b, off, eA, hbl, hcell⟩ := HA.out (by omega)
      have c0 := hcell wr HBW.out j d hd
      obtain ⟨o, ho⟩ : ∃ o, R[j]? = some o := ⟨_, List.getElem?_eq_getElem (by have := HRL.out; omega)⟩
      have c9 : wr.cell? ⟨g, j, none⟩ = some (.int .u32 (o : Int)) := (HK.out.cell _).trans (dc_get ho)
      have f9 : wr.frozen? ⟨g, j, none⟩ = false := Joins.unfrozen_of_block HK.out _
      obtain ⟨t, ht⟩ : ∃ t, t = (k % 4294967296) * 4294967296 + d := ⟨_, rfl⟩
      have HOR := Lib.hid (show bits BinOp.or IntKind.u64 (IntKind.u64.wrap ((k : Int) * 4294967296)) (d : Int) = (t : Int) by
        rw [shlT, Int.natCast_mul, ht]
        exact or32 (k % 4294967296) d (by omega) hdB)
      have HSR := Lib.hid (sr_round (B := 4294967296) hS0 HSB.out R D j d k (t / S % 4294967296) (by have := HRL.out; omega) hd hdB HM.out (by rw [ht]) HI.out)
      have htb : t < 18446744073709551616 := by omega
      have HT2 := Lib.hid ht
      have HN := Lib.hid (fun (z : Int) (hz : z = ((t / S % 4294967296 : Nat) : Int)) => show ∃ (i' c' : Nat) (x' : Int) (R' : List Nat), Value.int .u64 (t : Int) = .int .u64 (c' : Int) ∧ Value.int .i64 ((j : Int) - 1) = .int .i64 x' ∧ x' = (i' : Int) - 1 ∧ i' ≤ n ∧ c' < 18446744073709551616 ∧ c' % S = dv 4294967296 (D.drop i') % S ∧ R'.length = n ∧ dok 4294967296 R' ∧ dv 4294967296 (R'.drop i') = dv 4294967296 (D.drop i') / S ∧ Blk (wr.setCell ⟨g, j, none⟩ (.int .u32 z)) g 86 (dc R') ∧ Below w.heap.size w (wr.setCell ⟨g, j, none⟩ (.int .u32 z)) from by
        subst hz
        refine ⟨j, t, _, R.set j (t / S % 4294967296), rfl, rfl, rfl, by omega, htb, by rw [HT2.out]; exact HSR.out.2, by rw [List.length_set]; exact HRL.out, dok_set HR.out _ _ (Nat.mod_lt _ (by decide)), HSR.out.1, ?_, (store_step HK.out j _).2.2 _ _ HBW.out HG.out⟩
        rw [← dc_set]; exact (store_step HK.out j _).1)
      clear hcell hd ho ht
      subst eA
      go_wp2
      go_roundw
      case rel => rw [HOR.out]; exact HN.out _ (by rw [HS.out, Int.natCast_emod, Int.natCast_ediv, Int.natCast_pow]; rfl)
      case measure => simp only [intOf]; omega

theorem dv_top2 (B : Nat) (l : List Nat) (n a b : Nat) (hl : l.length = n + 2) (ha : l[n + 1]? = some a) (hb : l[n]? = some b) : dv B l = dv B (l.take n) + B ^ n * (a * B + b) := by
  have h1 := dv_take_succ B l (n + 1) a ha
  rw [List.take_of_length_le (by omega)] at h1
  have h2 := dv_take_succ B l n b hb
  rw [h1, h2, Nat.pow_succ, Nat.mul_add]
  grind
/-- The bounds that the estimate wants, of the two upper digits of the divisor and the three upper ones of the dividend. -/
theorem est_bounds {D E : List Nat} {m v1 v0 u2 u1 u0 : Nat} (hD : dok 4294967296 D) (hE : dok 4294967296 E) (hDl : D.length = m + 3) (hEl : E.length = m + 2) (h1 : E[m + 1]? = some v1) (h0 : E[m]? = some v0) (g2 : D[m + 2]? = some u2) (g1 : D[m + 1]? = some u1) (g0 : D[m]? = some u0) :
    dv 4294967296 E < (v1 * 4294967296 + v0 + 1) * 4294967296 ^ m ∧ (v1 * 4294967296 + v0) * 4294967296 ^ m ≤ dv 4294967296 E ∧ ((u2 * 4294967296 + u1) * 4294967296 + u0) * 4294967296 ^ m ≤ dv 4294967296 D ∧ dv 4294967296 D < ((u2 * 4294967296 + u1) * 4294967296 + u0 + 1) * 4294967296 ^ m := by
  have a1 := dv_top2 4294967296 E m v1 v0 hEl h1 h0
  have a2 := dv_lt (B := 4294967296) (by decide) (E.take m) (dok_take hE m)
  rw [List.length_take, Nat.min_eq_left (by omega)] at a2
  have b1 := dv_top2 4294967296 D (m + 1) u2 u1 hDl g2 g1
  have b3 := dv_take_succ 4294967296 D m u0 g0
  have b2 := dv_lt (B := 4294967296) (by decide) (D.take m) (dok_take hD m)
  rw [List.length_take, Nat.min_eq_left (by omega)] at b2
  rw [b3, Nat.pow_succ] at b1
  generalize 4294967296 ^ m = P at *
  have e1 : (v1 * 4294967296 + v0) * P = P * (v1 * 4294967296 + v0) := Nat.mul_comm _ _
  have e2 : ((u2 * 4294967296 + u1) * 4294967296 + u0) * P = P * 4294967296 * (u2 * 4294967296 + u1) + P * u0 := by grind
  refine ⟨?_, ?_, ?_, ?_⟩
  · rw [Nat.add_mul _ 1 P, e1, Nat.one_mul]; omega
  · rw [e1]; omega
  · rw [e2]; omega
  · rw [Nat.add_mul _ 1 P, e2, Nat.one_mul]; omega
theorem u2_le {B v1 v0 u2 u1 u0 P X Y tp : Nat} (htp : tp = u2 * B + u1) (b1 : Y < (v1 * B + v0 + 1) * P) (b3 : (tp * B + u0) * P ≤ X) (hlt : X < Y * B) (hv0 : v0 < B) : u2 ≤ v1 := by
  rcases Nat.lt_or_ge v1 u2 with hh | hh
  · have h1 : (v1 + 1) * B ≤ tp := by
      have h0 : (v1 + 1) * B ≤ u2 * B := Nat.mul_le_mul_right B hh
      omega
    have h2 : (v1 + 1) * B * B ≤ tp * B + u0 := by
      have h0 : (v1 + 1) * B * B ≤ tp * B := Nat.mul_le_mul_right B h1
      omega
    have h3 : (v1 + 1) * B * B * P ≤ X := Nat.le_trans (Nat.mul_le_mul_right P h2) b3
    have h4 : (v1 * B + v0 + 1) ≤ (v1 + 1) * B := by rw [Nat.add_mul, Nat.one_mul]; omega
    have h5 : Y * B ≤ (v1 * B + v0 + 1) * P * B := Nat.mul_le_mul_right B (Nat.le_of_lt b1)
    have h6 : (v1 * B + v0 + 1) * P * B ≤ (v1 + 1) * B * P * B := Nat.mul_le_mul_right B (Nat.mul_le_mul_right P h4)
    have h7 : (v1 + 1) * B * P * B = (v1 + 1) * B * B * P := by grind
    rw [h7] at h6
    exact absurd (Nat.lt_of_lt_of_le hlt (Nat.le_trans h5 (Nat.le_trans h6 h3))) (Nat.lt_irrefl _)
  · exact hh
theorem OnlyB.drewN {w w' : World} {g : Nat} (h : OnlyB w w' g) (k : Nat) : OnlyB w (w'.drewN k) g := ⟨fun g' T cs hn hb => h.1 g' T cs hn hb, fun B0 w0 hb hg => let h2 := h.2 B0 w0 hb hg; ⟨h2.os, h2.tape, h2.output, h2.size, h2.block⟩⟩
set_option maxRecDepth 100000 in
set_option maxHeartbeats 4000000 in
theorem divStep_any (g gv k n n1 n2 cu cv v1 v0 u2 u1 u0 : Nat) (L D H V : List Nat) (w : World) (hb : Blk w g 86 (dc (L ++ D ++ H))) (hDl : D.length = k) (hDd : dok 4294967296 D) (hv : Blk w gv 86 (dc V)) (hVd : dok 4294967296 V) (hm : n ≤ V.length) (hgv : gv ≠ g) (hk : k = n + 1) (hn1 : n = n1 + 1) (hn2 : n1 = n2 + 1) (hkb : k ≤ 100000) (hL : L.length ≤ 100000)
    (g2 : D[n]? = some u2) (g1 : D[n1]? = some u1) (g0 : D[n2]? = some u0) (h1 : V[n1]? = some v1) (h0 : V[n2]? = some v0) (hv1 : 4294967296 ≤ 2 * v1) (hlt : dv 4294967296 D < dv 4294967296 (V.take n) * 4294967296) :
    Calls Try.prog 87 #[.slice (some ⟨g, L.length, none⟩) k cu, .slice (some ⟨gv, 0, none⟩) n cv] w fun e w' => e = .returned (.int .u32 ((dv 4294967296 D / dv 4294967296 (V.take n) : Nat) : Int)) ∧ ∃ T, T.length = k ∧ dok 4294967296 T ∧ Blk w' g 86 (dc (L ++ T ++ H)) ∧ dv 4294967296 T = dv 4294967296 D % dv 4294967296 (V.take n) ∧ OnlyB w w' g := by
  have hEl : (V.take n).length = n2 + 2 := by rw [List.length_take]; omega
  have hEd : dok 4294967296 (V.take n) := dok_take hVd n
  have e1 : (V.take n)[n2 + 1]? = some v1 := by rw [List.getElem?_take, if_pos (by omega), ← hn2]; exact h1
  have e0 : (V.take n)[n2]? = some v0 := by rw [List.getElem?_take, if_pos (by omega)]; exact h0
  obtain ⟨b1, b2, b3, b4⟩ := est_bounds (m := n2) hDd hEd (by omega) hEl e1 e0 (by rw [show n2 + 2 = n by omega]; exact g2) (by rw [← hn2]; exact g1) g0
  have hv1B := dok_at hVd h1
  have hv0B := dok_at hVd h0
  have hu2B := dok_at hDd g2
  have hu1B := dok_at hDd g1
  have hu0B := dok_at hDd g0
  obtain ⟨X, hX⟩ : ∃ X, dv 4294967296 D = X := ⟨_, rfl⟩
  obtain ⟨Y, hY⟩ : ∃ Y, dv 4294967296 (V.take n) = Y := ⟨_, rfl⟩
  rw [hX, hY] at hlt ⊢
  rw [hY] at b1 b2
  rw [hX] at b3 b4
  obtain ⟨Q, hQ⟩ : ∃ Q, X / Y = Q := ⟨_, rfl⟩
  obtain ⟨Rm, hR⟩ : ∃ Rm, X % Y = Rm := ⟨_, rfl⟩
  rw [hQ, hR]
  have hP : 0 < 4294967296 ^ n2 := Nat.pow_pos (by decide)
  have hY0 : 0 < Y := by
    refine Nat.lt_of_lt_of_le ?_ b2
    exact Nat.mul_pos (by omega) hP
  have hQX : Q * Y ≤ X := by rw [← hQ]; exact Nat.div_mul_le_self X Y
  have hQX2 : X < (Q + 1) * Y := by rw [← hQ, Nat.mul_comm]; exact Nat.lt_mul_div_succ X hY0
  have hQB : Q < 4294967296 := by rw [← hQ]; exact Nat.div_lt_of_lt_mul hlt
  obtain ⟨tp, htp⟩ : ∃ tp, tp = u2 * 4294967296 + u1 := ⟨_, rfl⟩
  rw [← htp] at b3 b4
  have HST := Lib.hid (est_start (B := 4294967296) (q := Q) (by omega) hv1B b1 b2 b3 b4 hu0B hQX)
  have HGR := Lib.hid (fun p r (h : Est 4294967296 v1 v0 tp u0 Q p r) ht => est_great (B := 4294967296) h hP b2 b4 hQX hQB ht)
  have hu2v : u2 ≤ v1 := u2_le (B := 4294967296) htp b1 b3 hlt hv0B
  have HBS := Lib.hid (fun p r (h : Est 4294967296 v1 v0 tp u0 Q p r) => est_base (B := 4294967296) h htp hu1B hu2v hv1)
  have HEN := Lib.hid (fun p r (he : p * v1 + r = tp) (hp : p < 4294967296) (ht : p * v0 ≤ r * 4294967296 + u0) => est_end (B := 4294967296) (q := Q) he hp ht b1 b2 b3 (by omega) hQX2)
  have HX := Lib.hid hX
  have HY := Lib.hid hY
  have HQ := Lib.hid hQ
  have HRm := Lib.hid hR
  have HDl := Lib.hid hDl
  have HDd := Lib.hid hDd
  have HVd := Lib.hid hVd
  have HVm := Lib.hid hm
  have HGV := Lib.hid hgv
  have HBK := Lib.hid hb
  have HVK := Lib.hid hv
  have HY0 := Lib.hid hY0
  have HYP := Lib.hid (show Y < 4294967296 ^ k by
    have h3 := dv_lt (B := 4294967296) (by decide) (V.take n) hEd
    rw [hY, hEl] at h3
    exact Nat.lt_of_lt_of_le h3 (Nat.pow_le_pow_right (by decide) (by omega)))
  obtain ⟨l, hl⟩ : ∃ l, L.length = l := ⟨_, rfl⟩
  rw [hl] at hL ⊢
  have HLL := Lib.hid hl
  have cu2 : w.cell? ⟨g, l + n, none⟩ = some (.int .u32 (u2 : Int)) := (HBK.out.cell _).trans (dc_get (by rw [← hl]; exact win_get g2))
  have cu1 : w.cell? ⟨g, l + n1, none⟩ = some (.int .u32 (u1 : Int)) := (HBK.out.cell _).trans (dc_get (by rw [← hl]; exact win_get g1))
  have cu0 : w.cell? ⟨g, l + n2, none⟩ = some (.int .u32 (u0 : Int)) := (HBK.out.cell _).trans (dc_get (by rw [← hl]; exact win_get g0))
  have cv1 : w.cell? ⟨gv, n1, none⟩ = some (.int .u32 (v1 : Int)) := (HVK.out.cell _).trans (dc_get h1)
  have cv0 : w.cell? ⟨gv, n2, none⟩ = some (.int .u32 (v0 : Int)) := (HVK.out.cell _).trans (dc_get h0)
  have m1 : (n : Int) - 1 = (n1 : Int) := by omega
  have m2 : (n : Int) - 2 = (n2 : Int) := by omega
  have i0 : (n : Int) < (k : Int) := by omega
  have i1 : (n1 : Int) < (k : Int) := by omega
  have i2 : (n2 : Int) < (k : Int) := by omega
  have i3 : (n1 : Int) < (n : Int) := by omega
  have i4 : (n2 : Int) < (n : Int) := by omega
  have htpb : tp < 18446744073709551616 := by omega
  have HOR := Lib.hid (show bits BinOp.or IntKind.u64 ((u2 : Int) * 4294967296) (u1 : Int) = (tp : Int) by rw [htp]; exact or32 u2 u1 hu2B hu1B)
  have HNK := Lib.hid (show k = n + 1 ∧ n ≤ V.length from ⟨hk, hm⟩)
  have vne : ((v1 : Int) == 0) = false := by simp; omega
  have v1p : (1 : Int) ≤ (v1 : Int) := by omega
  have HV1 := Lib.hid hv1
  have hnk : n < k := by omega
  clear hEl hEd e1 e0 b1 b2 b3 b4 hX hY hQ hR hlt hQX hQX2 hP hY0 hb hv hDl hDd hVd hm hgv hk hn1 hn2 g2 g1 g0 h1 h0 htp hu2v hl hv1
  go_enter Try.func87, Try.ntmps87
  go_wp2
  go_quiet (fail)
  rw [HOR.out]
  have cv1' : (w.drewN nq).cell? ⟨gv, n1, none⟩ = some (.int .u32 (v1 : Int)) := cv1
  go_wp2
  obtain ⟨p0, hp0⟩ : ∃ p, p = tp / v1 := ⟨_, rfl⟩
  obtain ⟨r0, hr0⟩ : ∃ r, r = tp % v1 := ⟨_, rfl⟩
  rw [← hp0, ← hr0] at HST
  have HE0 := Lib.hid (show IntKind.u64.wrap ((tp : Int) / (v1 : Int)) = (p0 : Int) by rw [IntKind.wrap_u64, hp0, ← Int.natCast_ediv]; have : tp / v1 ≤ tp := Nat.div_le_self _ _; omega)
  have HE1 := Lib.hid (show (tp : Int) % (v1 : Int) = (r0 : Int) by rw [hr0, ← Int.natCast_emod])
  rw [HE0.out, HE1.out]
  clear hp0 hr0
  go_loopw [7, 8] (fun s7 s8 wr => ∃ (p r kk : Nat), s7 = .int .u64 (p : Int) ∧ s8 = .int .u64 (r : Int) ∧ Est 4294967296 v1 v0 tp u0 Q p r ∧ wr = w.drewN kk) (fun s7 _ _ => (intOf s7).toNat)
  case atStart => exact ⟨p0, r0, _, rfl, rfl, HST.out, rfl⟩
  case round =>
    obtain ⟨p, r, kk, rfl, rfl, he, rfl⟩ := hrel
    have HEst := Lib.hid he
    have hr32 : r < 4294967296 := he.2.2
    have hpB1 : p ≤ 4294967297 := (HBS.out p r he).1
    have HBR := Lib.hid (HBS.out p r he).2
    have cu0' : (w.drewN kk).cell? ⟨g, l + n2, none⟩ = some (.int .u32 (u0 : Int)) := cu0
    have cv0' : (w.drewN kk).cell? ⟨gv, n2, none⟩ = some (.int .u32 (v0 : Int)) := cv0
    clear he
    by_cases hpB : 4294967296 ≤ p
    · have hge : decide ((p : Int) ≥ 4294967296) = true := by simp; omega
      have hge2 : (4294967296 : Int) ≤ (p : Int) := by omega
      obtain ⟨hq1, hp1⟩ := HGR.out p r HEst.out (.inl hpB)
      go_wp2
      go_quiet (fail)
      obtain ⟨pm, hpm⟩ : ∃ pm, p = pm + 1 := ⟨p - 1, by omega⟩
      obtain ⟨rr, hrr⟩ : ∃ rr, rr = r + v1 := ⟨_, rfl⟩
      have hpm1 : (p : Int) - 1 = (pm : Int) := by omega
      have hp1I : (1 : Int) ≤ (p : Int) := by omega
      have hrr1 : (r : Int) + (v1 : Int) = (rr : Int) := by omega
      have hrrb : rr < 18446744073709551616 := by omega
      have cv1' : (w.drewN (kk + nq)).cell? ⟨gv, n1, none⟩ = some (.int .u32 (v1 : Int)) := cv1
      have HRR := Lib.hid hrr
      have HPM := Lib.hid hpm
      have HQ0 := Lib.hid hq1
      by_cases hbr : rr < 4294967296
      · have hbI : ¬ (4294967296 : Int) ≤ (rr : Int) := by omega
        have HNX := Lib.hid (show Est 4294967296 v1 v0 tp u0 Q pm rr from by
          have h3 := est_next HEst.out hq1 hp1 (by omega)
          rw [hpm, Nat.add_sub_cancel, ← hrr] at h3
          exact h3)
        clear hrr hpm hq1 hp1
        go_wp2
        go_roundw
        case rel => exact ⟨pm, rr, kk + nq, rfl, rfl, HNX.out, rfl⟩
        case measure => simp only [intOf]; have := HPM.out; omega
      · have hbI : (4294967296 : Int) ≤ (rr : Int) := by omega
        have HPB := Lib.hid (show pm < 4294967296 by
          have h3 := HBR.out
          rcases Nat.lt_or_ge pm 4294967296 with h4 | h4
          · exact h4
          · have := h3 (by omega)
            omega)
        have HQ1 := Lib.hid (show pm = Q ∨ pm = Q + 1 from by
          have h4 := HEN.out pm rr (by
            have h5 := HEst.out.1
            rw [hpm, Nat.add_mul, Nat.one_mul] at h5
            omega) HPB.out (by
            have h5 : pm * v0 ≤ 4294967295 * 4294967295 := Nat.mul_le_mul (by have := HPB.out; omega) (by omega)
            have h6 : 4294967296 * 4294967296 ≤ rr * 4294967296 := Nat.mul_le_mul_right _ (by omega)
            omega)
          omega)
        clear hrr hpm hq1 hp1
        have CS := Lib.hid (subMul_any g gv k cu n cv pm L D H V (w.drewN (kk + nq)) (show Blk ((w.drewN (kk + nq))) g 86 _ from HBK.out) HDl.out HDd.out (show Blk ((w.drewN (kk + nq))) gv 86 _ from HVK.out) HVd.out HVm.out HGV.out hnk hkb (by rw [HLL.out]; exact hL) HPB.out)
        rw [HLL.out, HY.out, HX.out] at CS
        go_wp2_with fail
        refine CS.out.mono ?_
        rintro e w5 ⟨T, b, rfl, hb1, hTl, hTd, hTk, hTv, hTo⟩
        have HTB := Lib.hid hTk
        have HTL := Lib.hid hTl
        have HTD := Lib.hid hTd
        have HTO := Lib.hid (OnlyB.trans ((OnlyB.refl w g).drewN _) hTo)
        have HSE := Lib.hid (sm_end (U := X) (V := Y) (P := 4294967296 ^ k) (q := pm) (by have := dv_lt (B := 4294967296) (by decide) T hTd; rw [hTl] at this; exact this) (by have := dv_lt (B := 4294967296) (by decide) D HDd.out; rw [HDl.out, HX.out] at this; exact this) hTv hb1 (by rw [HQ.out]; exact HQ1.out) HY0.out HYP.out)
        clear CS hTk hTl hTd hTo hTv
        rcases (by omega : b = 0 ∨ b = 1) with rfl | rfl
        · have hpq : pm = Q := by rw [← HQ.out]; exact (HSE.out.1 rfl).1
          have hRv := Lib.hid (show dv 4294967296 T = Rm by rw [← HRm.out]; exact (HSE.out.1 rfl).2)
          have hd0 : decide ((0 : Nat) ≠ 0) = false := by decide
          have wq : IntKind.u32.wrap (pm : Int) = (pm : Int) := by rw [IntKind.wrap_u32]; have := HPB.out; omega
          have wq2 : (pm : Int) % 4294967296 = (pm : Int) := by have := HPB.out; omega
          go_wp2
          go_ret
          exact ⟨by rw [← hpq]; rfl, T, HTL.out, HTD.out, by simpa [List.append_assoc] using HTB.out, hRv.out, HTO.out⟩
        · have hpq : pm = Q + 1 := by rw [← HQ.out]; exact (HSE.out.2 rfl).1
          have hAv := (HSE.out.2 rfl).2
          have CA := Lib.hid (addBack_any g gv k cu n cv L T H V w5 HTB.out HTL.out HTD.out (HTO.out.1 _ _ _ HGV.out HVK.out) HVd.out HVm.out HGV.out hnk hkb (by rw [HLL.out]; exact hL))
          rw [HLL.out, HY.out] at CA
          have hd1 : decide ((1 : Nat) ≠ 0) = true := by decide
          have hpm : (pm : Int) - 1 = (Q : Int) := by omega
          have HQB := Lib.hid hQB
          have hQI : (Q : Int) < 4294967296 := by omega
          have hpp1 : (1 : Int) ≤ (pm : Int) := by omega
          have HAV := Lib.hid hAv
          clear hAv
          go_wp2_with fail
          refine CA.out.mono ?_
          rintro e w6 ⟨T2, c2, rfl, hc2, hT2l, hT2d, hT2k, hT2v, hT2o⟩
          have HRF := Lib.hid (show dv 4294967296 T2 = Rm by
            rw [← HRm.out]
            have h3 := HAV.out
            exact ab_end (P := 4294967296 ^ k) (by have := dv_lt (B := 4294967296) (by decide) T2 hT2d; rw [hT2l] at this; exact this) (Nat.mod_lt X HY0.out) h3 HYP.out hT2v hc2)
          have HT2B := Lib.hid hT2k
          have HT2L := Lib.hid hT2l
          have HT2D := Lib.hid hT2d
          have HT2O := Lib.hid (HTO.out.trans hT2o)
          clear CA hT2k hT2l hT2d hT2v hT2o
          go_wp2
          go_ret
          exact ⟨by first | rfl | (congr 1; simp only [IntKind.wrap_u64, IntKind.wrap_u32]; congr 1; omega), T2, HT2L.out, HT2D.out, by simpa [List.append_assoc] using HT2B.out, HRF.out, HT2O.out⟩
    · have hge : decide ((p : Int) ≥ 4294967296) = false := by simp; omega
      have hge2 : ¬ (4294967296 : Int) ≤ (p : Int) := by omega
      obtain ⟨x1, hx1⟩ : ∃ x, x = p * v0 := ⟨_, rfl⟩
      have hx1b : x1 ≤ 18446744065119617025 := by
        rw [hx1]
        exact Nat.le_trans (Nat.mul_le_mul (by omega : p ≤ 4294967295) (by omega : v0 ≤ 4294967295)) (by decide)
      have hx1I : (p : Int) * (v0 : Int) = (x1 : Int) := by rw [hx1]; simp
      obtain ⟨y1, hy1⟩ : ∃ y, y = r * 4294967296 + u0 := ⟨_, rfl⟩
      have hy1b : y1 < 18446744073709551616 := by omega
      have hor : bits BinOp.or IntKind.u64 ((r : Int) * 4294967296) (u0 : Int) = (y1 : Int) := by rw [hy1]; exact or32 r u0 hr32 hu0B
      have HX1 := Lib.hid hx1
      have HY1 := Lib.hid hy1
      clear hx1 hy1
      by_cases htt : y1 < x1
      · have htI : (y1 : Int) < (x1 : Int) := by omega
        have htI2 : decide ((x1 : Int) > (y1 : Int)) = true := by simp; omega
        obtain ⟨hq1, hp1⟩ := HGR.out p r HEst.out (.inr (by rw [← HX1.out, ← HY1.out]; exact htt))
        clear htt
        go_wp2
        go_quiet (fail)
        obtain ⟨pm, hpm⟩ : ∃ pm, p = pm + 1 := ⟨p - 1, by omega⟩
        obtain ⟨rr, hrr⟩ : ∃ rr, rr = r + v1 := ⟨_, rfl⟩
        have hpm1 : (p : Int) - 1 = (pm : Int) := by omega
        have hp1I : (1 : Int) ≤ (p : Int) := by omega
        have hrr1 : (r : Int) + (v1 : Int) = (rr : Int) := by omega
        have hrrb : rr < 18446744073709551616 := by omega
        have cv1' : (w.drewN (kk + nq)).cell? ⟨gv, n1, none⟩ = some (.int .u32 (v1 : Int)) := cv1
        have HRR := Lib.hid hrr
        have HPM := Lib.hid hpm
        have HQ0 := Lib.hid hq1
        by_cases hbr : rr < 4294967296
        · have hbI : ¬ (4294967296 : Int) ≤ (rr : Int) := by omega
          have HNX := Lib.hid (show Est 4294967296 v1 v0 tp u0 Q pm rr from by
            have h3 := est_next HEst.out hq1 hp1 (by omega)
            rw [hpm, Nat.add_sub_cancel, ← hrr] at h3
            exact h3)
          clear hrr hpm hq1 hp1
          go_wp2
          go_roundw
          case rel => exact ⟨pm, rr, kk + nq, rfl, rfl, HNX.out, rfl⟩
          case measure => simp only [intOf]; have := HPM.out; omega
        · have hbI : (4294967296 : Int) ≤ (rr : Int) := by omega
          have HPB := Lib.hid (show pm < 4294967296 by
            have h3 := HBR.out
            rcases Nat.lt_or_ge pm 4294967296 with h4 | h4
            · exact h4
            · have := h3 (by omega)
              omega)
          have HQ1 := Lib.hid (show pm = Q ∨ pm = Q + 1 from by
            have h4 := HEN.out pm rr (by
              have h5 := HEst.out.1
              rw [hpm, Nat.add_mul, Nat.one_mul] at h5
              omega) HPB.out (by
              have h5 : pm * v0 ≤ 4294967295 * 4294967295 := Nat.mul_le_mul (by have := HPB.out; omega) (by omega)
              have h6 : 4294967296 * 4294967296 ≤ rr * 4294967296 := Nat.mul_le_mul_right _ (by omega)
              omega)
            omega)
          clear hrr hpm hq1 hp1
          have CS := Lib.hid (subMul_any g gv k cu n cv pm L D H V (w.drewN (kk + nq)) (show Blk ((w.drewN (kk + nq))) g 86 _ from HBK.out) HDl.out HDd.out (show Blk ((w.drewN (kk + nq))) gv 86 _ from HVK.out) HVd.out HVm.out HGV.out hnk hkb (by rw [HLL.out]; exact hL) HPB.out)
          rw [HLL.out, HY.out, HX.out] at CS
          go_wp2_with fail
          refine CS.out.mono ?_
          rintro e w5 ⟨T, b, rfl, hb1, hTl, hTd, hTk, hTv, hTo⟩
          have HTB := Lib.hid hTk
          have HTL := Lib.hid hTl
          have HTD := Lib.hid hTd
          have HTO := Lib.hid (OnlyB.trans ((OnlyB.refl w g).drewN _) hTo)
          have HSE := Lib.hid (sm_end (U := X) (V := Y) (P := 4294967296 ^ k) (q := pm) (by have := dv_lt (B := 4294967296) (by decide) T hTd; rw [hTl] at this; exact this) (by have := dv_lt (B := 4294967296) (by decide) D HDd.out; rw [HDl.out, HX.out] at this; exact this) hTv hb1 (by rw [HQ.out]; exact HQ1.out) HY0.out HYP.out)
          clear CS hTk hTl hTd hTo hTv
          rcases (by omega : b = 0 ∨ b = 1) with rfl | rfl
          · have hpq : pm = Q := by rw [← HQ.out]; exact (HSE.out.1 rfl).1
            have hRv := Lib.hid (show dv 4294967296 T = Rm by rw [← HRm.out]; exact (HSE.out.1 rfl).2)
            have hd0 : decide ((0 : Nat) ≠ 0) = false := by decide
            have wq : IntKind.u32.wrap (pm : Int) = (pm : Int) := by rw [IntKind.wrap_u32]; have := HPB.out; omega
            have wq2 : (pm : Int) % 4294967296 = (pm : Int) := by have := HPB.out; omega
            go_wp2
            go_ret
            exact ⟨by rw [← hpq]; rfl, T, HTL.out, HTD.out, by simpa [List.append_assoc] using HTB.out, hRv.out, HTO.out⟩
          · have hpq : pm = Q + 1 := by rw [← HQ.out]; exact (HSE.out.2 rfl).1
            have hAv := (HSE.out.2 rfl).2
            have CA := Lib.hid (addBack_any g gv k cu n cv L T H V w5 HTB.out HTL.out HTD.out (HTO.out.1 _ _ _ HGV.out HVK.out) HVd.out HVm.out HGV.out hnk hkb (by rw [HLL.out]; exact hL))
            rw [HLL.out, HY.out] at CA
            have hd1 : decide ((1 : Nat) ≠ 0) = true := by decide
            have hpm : (pm : Int) - 1 = (Q : Int) := by omega
            have HQB := Lib.hid hQB
            have hQI : (Q : Int) < 4294967296 := by omega
            have hpp1 : (1 : Int) ≤ (pm : Int) := by omega
            have HAV := Lib.hid hAv
            clear hAv
            go_wp2_with fail
            refine CA.out.mono ?_
            rintro e w6 ⟨T2, c2, rfl, hc2, hT2l, hT2d, hT2k, hT2v, hT2o⟩
            have HRF := Lib.hid (show dv 4294967296 T2 = Rm by
              rw [← HRm.out]
              have h3 := HAV.out
              exact ab_end (P := 4294967296 ^ k) (by have := dv_lt (B := 4294967296) (by decide) T2 hT2d; rw [hT2l] at this; exact this) (Nat.mod_lt X HY0.out) h3 HYP.out hT2v hc2)
            have HT2B := Lib.hid hT2k
            have HT2L := Lib.hid hT2l
            have HT2D := Lib.hid hT2d
            have HT2O := Lib.hid (HTO.out.trans hT2o)
            clear CA hT2k hT2l hT2d hT2v hT2o
            go_wp2
            go_ret
            exact ⟨by first | rfl | (congr 1; simp only [IntKind.wrap_u64, IntKind.wrap_u32]; congr 1; omega), T2, HT2L.out, HT2D.out, by simpa [List.append_assoc] using HT2B.out, HRF.out, HT2O.out⟩
      · have htI : ¬ (y1 : Int) < (x1 : Int) := by omega
        have htI2 : decide ((x1 : Int) > (y1 : Int)) = false := by simp; omega
        have HQ1 := Lib.hid (show p = Q ∨ p = Q + 1 from by
          have h3 := HEst.out.2.1
          have h4 := HEN.out p r HEst.out.1 (by omega) (by rw [← HX1.out, ← HY1.out]; omega)
          omega)
        have HPB := Lib.hid (show p < 4294967296 by omega)
        clear htt
        go_wp2
        go_quiet (fail)
        clear hge2 hge
        have CS := Lib.hid (subMul_any g gv k cu n cv p L D H V (w.drewN (kk + nq)) (show Blk ((w.drewN (kk + nq))) g 86 _ from HBK.out) HDl.out HDd.out (show Blk ((w.drewN (kk + nq))) gv 86 _ from HVK.out) HVd.out HVm.out HGV.out hnk hkb (by rw [HLL.out]; exact hL) HPB.out)
        rw [HLL.out, HY.out, HX.out] at CS
        go_wp2_with fail
        refine CS.out.mono ?_
        rintro e w5 ⟨T, b, rfl, hb1, hTl, hTd, hTk, hTv, hTo⟩
        have HTB := Lib.hid hTk
        have HTL := Lib.hid hTl
        have HTD := Lib.hid hTd
        have HTO := Lib.hid (OnlyB.trans ((OnlyB.refl w g).drewN _) hTo)
        have HSE := Lib.hid (sm_end (U := X) (V := Y) (P := 4294967296 ^ k) (q := p) (by have := dv_lt (B := 4294967296) (by decide) T hTd; rw [hTl] at this; exact this) (by have := dv_lt (B := 4294967296) (by decide) D HDd.out; rw [HDl.out, HX.out] at this; exact this) hTv hb1 (by rw [HQ.out]; exact HQ1.out) HY0.out HYP.out)
        clear CS hTk hTl hTd hTo hTv
        rcases (by omega : b = 0 ∨ b = 1) with rfl | rfl
        · have hpq : p = Q := by rw [← HQ.out]; exact (HSE.out.1 rfl).1
          have hRv := Lib.hid (show dv 4294967296 T = Rm by rw [← HRm.out]; exact (HSE.out.1 rfl).2)
          have hd0 : decide ((0 : Nat) ≠ 0) = false := by decide
          have wq : IntKind.u32.wrap (p : Int) = (p : Int) := by rw [IntKind.wrap_u32]; have := HPB.out; omega
          have wq2 : (p : Int) % 4294967296 = (p : Int) := by have := HPB.out; omega
          go_wp2
          go_ret
          exact ⟨by rw [← hpq]; rfl, T, HTL.out, HTD.out, by simpa [List.append_assoc] using HTB.out, hRv.out, HTO.out⟩
        · have hpq : p = Q + 1 := by rw [← HQ.out]; exact (HSE.out.2 rfl).1
          have hAv := (HSE.out.2 rfl).2
          have CA := Lib.hid (addBack_any g gv k cu n cv L T H V w5 HTB.out HTL.out HTD.out (HTO.out.1 _ _ _ HGV.out HVK.out) HVd.out HVm.out HGV.out hnk hkb (by rw [HLL.out]; exact hL))
          rw [HLL.out, HY.out] at CA
          have hd1 : decide ((1 : Nat) ≠ 0) = true := by decide
          have hpm : (p : Int) - 1 = (Q : Int) := by omega
          have HQB := Lib.hid hQB
          have hQI : (Q : Int) < 4294967296 := by omega
          have hpp1 : (1 : Int) ≤ (p : Int) := by omega
          have HAV := Lib.hid hAv
          clear hAv
          go_wp2_with fail
          refine CA.out.mono ?_
          rintro e w6 ⟨T2, c2, rfl, hc2, hT2l, hT2d, hT2k, hT2v, hT2o⟩
          have HRF := Lib.hid (show dv 4294967296 T2 = Rm by
            rw [← HRm.out]
            have h3 := HAV.out
            exact ab_end (P := 4294967296 ^ k) (by have := dv_lt (B := 4294967296) (by decide) T2 hT2d; rw [hT2l] at this; exact this) (Nat.mod_lt X HY0.out) h3 HYP.out hT2v hc2)
          have HT2B := Lib.hid hT2k
          have HT2L := Lib.hid hT2l
          have HT2D := Lib.hid hT2d
          have HT2O := Lib.hid (HTO.out.trans hT2o)
          clear CA hT2k hT2l hT2d hT2v hT2o
          go_wp2
          go_ret
          exact ⟨by first | rfl | (congr 1; simp only [IntKind.wrap_u64, IntKind.wrap_u32]; congr 1; omega), T2, HT2L.out, HT2D.out, by simpa [List.append_assoc] using HT2B.out, HRF.out, HT2O.out⟩

theorem norm_shift (t : Nat) (h0 : 0 < t) (ht : t < 4294967296) : ∃ s : Nat, (32 : Int) - (Lib.bitLen t : Int) = (s : Int) ∧ s < 32 ∧ 2147483648 ≤ t * 2 ^ s ∧ (t + 1) * 2 ^ s ≤ 4294967296 := by
  have h1 : 2 ^ t.log2 ≤ t := Nat.log2_self_le (by omega)
  have h2 : t < 2 ^ (t.log2 + 1) := Nat.lt_log2_self
  generalize t.log2 = k at *
  have hk : k ≤ 31 := by
    rcases Nat.lt_or_ge 31 k with g | g
    · have : (2 : Nat) ^ 32 ≤ 2 ^ k := Nat.pow_le_pow_right (by decide) g
      omega
    · exact g
  have h3 := Lib.bitLen_shift k t h1 (by omega)
  have h4 : t / 2 ^ k = 1 := by
    rw [Nat.pow_succ] at h2
    have hp : 0 < 2 ^ k := Nat.pow_pos (by decide)
    have a1 : 1 ≤ t / 2 ^ k := (Nat.le_div_iff_mul_le hp).2 (by omega)
    have a2 : t / 2 ^ k < 2 := Nat.div_lt_of_lt_mul h2
    omega
  rw [h4, show Lib.bitLen 1 = 1 from by decide] at h3
  have e : (2 : Nat) ^ k * 2 ^ (31 - k) = 2147483648 := by rw [← Nat.pow_add, show k + (31 - k) = 31 by omega]
  refine ⟨31 - k, by rw [h3]; omega, by omega, ?_, ?_⟩
  · have := Nat.mul_le_mul_right (2 ^ (31 - k)) h1
    omega
  · have h5 : (t + 1) * 2 ^ (31 - k) ≤ 2 ^ (k + 1) * 2 ^ (31 - k) := Nat.mul_le_mul_right _ h2
    rw [Nat.pow_succ, Nat.mul_assoc, Nat.mul_comm 2, ← Nat.mul_assoc, e] at h5
    exact h5
/-- The digits of the divisor, shifted. -/
theorem shifted_top {E R : List Nat} {m S t : Nat} (hE : dok 4294967296 E) (hEl : E.length = m + 1) (ht : E[m]? = some t) (h1 : 2147483648 ≤ t * S) (h2 : (t + 1) * S ≤ 4294967296) (hR : dok 4294967296 R) (hRl : R.length = m + 2) (hRv : dv 4294967296 R = dv 4294967296 E * S) :
    dv 4294967296 (R.take (m + 1)) = dv 4294967296 E * S ∧ ∃ v, R[m]? = some v ∧ 4294967296 ≤ 2 * v := by
  have a1 := dv_take_succ 4294967296 E m t ht
  rw [List.take_of_length_le (by omega)] at a1
  have a2 := dv_lt (B := 4294967296) (by decide) (E.take m) (dok_take hE m)
  rw [List.length_take, Nat.min_eq_left (by omega)] at a2
  obtain ⟨x, hx⟩ : ∃ x, R[m + 1]? = some x := ⟨_, List.getElem?_eq_getElem (by omega)⟩
  obtain ⟨v, hv⟩ : ∃ v, R[m]? = some v := ⟨_, List.getElem?_eq_getElem (by omega)⟩
  have b1 := dv_take_succ 4294967296 R (m + 1) x hx
  rw [List.take_of_length_le (show R.length ≤ m + 1 + 1 by omega)] at b1
  have b2 := dv_take_succ 4294967296 R m v hv
  have b3 := dv_lt (B := 4294967296) (by decide) (R.take m) (dok_take hR m)
  rw [List.length_take, Nat.min_eq_left (by omega)] at b3
  have hP : 0 < 4294967296 ^ m := Nat.pow_pos (by decide)
  have hup : dv 4294967296 E * S < 4294967296 ^ m * 4294967296 := by
    have c1 : dv 4294967296 E < 4294967296 ^ m * (t + 1) := by rw [a1, Nat.mul_add, Nat.mul_one]; omega
    have hS : 0 < S := by
      rcases Nat.eq_zero_or_pos S with e | e
      · subst e; simp at h1
      · exact e
    have c2 : dv 4294967296 E * S < 4294967296 ^ m * (t + 1) * S := Nat.mul_lt_mul_of_pos_right c1 hS
    have c3 : 4294967296 ^ m * ((t + 1) * S) ≤ 4294967296 ^ m * 4294967296 := Nat.mul_le_mul_left _ h2
    rw [← Nat.mul_assoc] at c3
    omega
  have hx0 : x = 0 := by
    rcases Nat.eq_zero_or_pos x with e | e
    · exact e
    · have : 4294967296 ^ (m + 1) * 1 ≤ 4294967296 ^ (m + 1) * x := Nat.mul_le_mul_left _ e
      rw [Nat.pow_succ] at this b1
      omega
  subst hx0
  rw [Nat.mul_zero, Nat.add_zero] at b1
  refine ⟨by rw [← b1, hRv], v, hv, ?_⟩
  have d1 : 4294967296 ^ m * (t * S) ≤ dv 4294967296 E * S := by
    rw [← Nat.mul_assoc]
    exact Nat.mul_le_mul_right S (by omega)
  have d2 : 4294967296 ^ m * 2147483648 ≤ 4294967296 ^ m * (t * S) := Nat.mul_le_mul_left _ h1
  have d3 : dv 4294967296 E * S < 4294967296 ^ m * (v + 1) := by
    rw [← hRv, b1, b2, Nat.mul_add, Nat.mul_one]
    omega
  have d4 : 4294967296 ^ m * 2147483648 < 4294967296 ^ m * (v + 1) := by omega
  have := Nat.lt_of_mul_lt_mul_left d4
  omega
theorem div_back {A E Q U S : Nat} (hS : 0 < S) (h : A * S = U + Q * (E * S)) (hlt : U < E * S) : A = Q * E + U / S ∧ U / S < E := by
  have h1 : U = (A - Q * E) * S := by
    rw [Nat.sub_mul, h, Nat.mul_assoc]
    omega
  have h2 : Q * E ≤ A := by
    have : Q * E * S ≤ A * S := by rw [h, Nat.mul_assoc]; omega
    exact Nat.le_of_mul_le_mul_right this hS
  have h3 : U / S = A - Q * E := by rw [h1, Nat.mul_div_cancel _ hS]
  refine ⟨by omega, ?_⟩
  rw [h3]
  rw [h1] at hlt
  exact Nat.lt_of_mul_lt_mul_right hlt
theorem win_lt {B n j : Nat} {L W H : List Nat} {V : Nat} (hL : L.length = j) (hW : W.length = n + 1) (hWk : dok B W) (_hV : V ≤ B ^ n) (hlt : dv B ((L ++ W ++ H).drop (j + 1)) < V) : dv B W < V * B := by
  obtain ⟨d, W', rfl⟩ : ∃ d W', W = d :: W' := by
    match W, hW with
    | d :: W', _ => exact ⟨d, W', rfl⟩
  have e1 : (L ++ (d :: W') ++ H).drop (j + 1) = W' ++ H := by
    rw [List.append_assoc, List.drop_append, hL, show j + 1 - j = 1 by omega, List.drop_eq_nil_of_le (by omega)]
    rfl
  rw [e1, dv_app] at hlt
  have hd : d < B := hWk d (by simp)
  show d + B * dv B W' < V * B
  have h1 : B * (dv B W' + 1) ≤ B * V := Nat.mul_le_mul_left B (by omega)
  rw [Nat.mul_add, Nat.mul_comm B V] at h1
  omega
set_option maxRecDepth 100000 in
set_option maxHeartbeats 4000000 in
theorem div_many (A : Option Addr) (n c : Nat) (D : List Nat) (A2 : Option Addr) (m m1 c2 : Nat) (E : List Nat) (w : World) (h : DG w A n D) (h2 : DG w A2 m E) (n1 : nmz D) (n2 : nmz E) (hn : n ≤ 50000) (hm2 : m = m1 + 1) (hm1 : 0 < m1) (hle : ¬ dv 4294967296 D < dv 4294967296 E) :
    Calls Try.prog 82 #[.slice A n c, .slice A2 m c2] w (DivPost w D E (max n m)) := by
  have hmn : m ≤ n := by
    have h3 := nmz_len (B := 4294967296) (by decide) D E h.2.1 h2.2.1 n2
    rcases Nat.lt_or_ge n m with g | g
    · exact absurd (h3 (by rw [h.1, h2.1]; exact g)) hle
    · exact g
  obtain ⟨t, ht⟩ : ∃ t, E[m1]? = some t := ⟨_, List.getElem?_eq_getElem (by rw [h2.1]; omega)⟩
  have htB := dok_at h2.2.1 ht
  have ht0 : 0 < t := by
    have := n2 t (by rw [h2.1, show m - 1 = m1 by omega]; exact ht)
    omega
  obtain ⟨s, hs1, hs32, hs2, hs3⟩ := norm_shift t ht0 htB
  obtain ⟨S, hS⟩ : ∃ S : Nat, S = 2 ^ s := ⟨_, rfl⟩
  rw [← hS] at hs2 hs3
  have HS := Lib.hid hS
  have CC := Lib.hid (compare_any A n c D A2 m c2 E w h h2 (by omega) (.inr ⟨n1, n2⟩))
  have hge := scmp_ge hle
  obtain ⟨sc, hsc⟩ : ∃ q, scmp (dv 4294967296 D) (dv 4294967296 E) = q := ⟨_, rfl⟩
  rw [hsc] at CC hge
  have HLE := Lib.hid hle
  have HG1 := Lib.hid h
  have HG2 := Lib.hid h2
  have HE2 := Lib.hid n2
  have HHT := Lib.hid ht
  have HS2 := Lib.hid hs2
  have HS3 := Lib.hid hs3
  have HM2 := Lib.hid hm2
  have CL := Lib.hid (fun W => Try.bits_LeadingZeros32 (t : Int) W (by omega) (by omega))
  rw [Int.toNat_natCast, hs1] at CL
  obtain ⟨b2, off2, eA2, hbl2, hc2⟩ := h2.at (by omega)
  subst eA2
  have HC2 := Lib.hid (fun W hW => hc2 W hW m1 t ht)
  have hm1I : (m : Int) - 1 = (m1 : Int) := by omega
  have hm1m : (m1 : Int) < (m : Int) := by omega
  have hne1 : ((m : Int) == 1) = false := by simp; omega
  have hsI : (s : Int) < 32 := by omega
  clear h h2 n1 n2 hle hsc hc2 hS ht hs1 hs2 hs3 htB ht0 hm2
  go_enter Try.func82, Try.ntmps82
  go_wp2_with fail
  refine CC.out.mono ?_
  rintro e w1 ⟨rfl, hb⟩
  have HB := Lib.hid hb
  have c0 := HC2.out w1 hb
  clear hb CC
  go_wp2_with fail
  refine (CL.out w1).mono ?_
  rintro e w1' ⟨rfl, hy⟩
  replace hy := hy.symm
  subst hy
  clear CL c0 hge
  have CV := Lib.hid (shiftLeft_any (some ⟨b2, off2, none⟩) m c2 s E w1 (HG2.out.below HB.out) (by omega) hs32)
  go_wp2_with fail
  refine CV.out.mono ?_
  rintro e w2 ⟨gv, RV, rfl, hk, hg, hd, hv, hl, hb⟩
  rw [← HS.out] at hv
  have HKV := Lib.hid hk
  have HVL := Lib.hid hk.lt
  have HGV := Lib.hid hg
  have HDV := Lib.hid hd
  have HLV := Lib.hid hl
  have HVV := Lib.hid (shifted_top (m := m1) HG2.out.2.1 (by rw [HG2.out.1]; exact HM2.out) HHT.out HS2.out HS3.out hd (by rw [hl]; have := HM2.out; omega) hv)
  have HB2 := Lib.hid (HB.out.trans (hb.mono HB.out.size))
  clear CV hk hg hd hv hl hb
  have CU := Lib.hid (shiftLeft_any A n c s D w2 (HG1.out.below HB2.out) (by omega) hs32)
  go_wp2_with fail
  refine CU.out.mono ?_
  rintro e w3 ⟨gu, RU, rfl, hk, hg, hd, hv, hl, hb⟩
  rw [← HS.out] at hv
  have HB3 := Lib.hid (HB2.out.trans (hb.mono HB2.out.size))
  replace HKV := Lib.hid (HKV.out.below hb)
  have HKU := Lib.hid hk
  have HGU := Lib.hid hg
  have HDU := Lib.hid hd
  have HLU := Lib.hid hl
  have HVU := Lib.hid hv
  have hgvu : gv ≠ gu := by
    have h4 := HGU.out
    have h5 := HVL.out
    omega
  clear CU hk hg hd hv hl hb
  obtain ⟨q1, hq1⟩ : ∃ q1, q1 = n - m + 1 := ⟨_, rfl⟩
  have hqI : (n : Int) - (m : Int) + 1 = (q1 : Int) := by omega
  have hmk := make32 q1 (by omega) w3
  obtain ⟨W4, hW4⟩ : ∃ W, W = w3.alloc (.cells (dc (List.replicate q1 0)) 86) := ⟨_, rfl⟩
  rw [← hW4] at hmk
  have hb4 : Below w3.heap.size w3 W4 := by rw [hW4]; exact (Below.refl _ w3).alloc (Nat.le_refl _) _
  obtain ⟨gq, hgq⟩ : ∃ g, w3.heap.size = g := ⟨_, rfl⟩
  rw [hgq] at hmk
  have HKQ := Lib.hid (show Blk W4 gq 86 (dc (List.replicate q1 0)) by rw [hW4, ← hgq]; exact Blk.new _ _ _)
  have HB4 := Lib.hid (HB3.out.trans (hb4.mono HB3.out.size))
  have hguq : gu < gq := by rw [← hgq]; exact HKU.out.lt
  have hgvq : gv < gq := by rw [← hgq]; exact HKV.out.lt
  replace HKV := Lib.hid (HKV.out.below hb4)
  replace HKU := Lib.hid (HKU.out.below hb4)
  have HGQ := Lib.hid (show w.heap.size ≤ gq by rw [← hgq]; exact HB3.out.size)
  replace HGU := Lib.hid (show w.heap.size ≤ gu from Nat.le_trans HB2.out.size HGU.out)
  replace HGV := Lib.hid (show w.heap.size ≤ gv from Nat.le_trans HB.out.size HGV.out)
  obtain ⟨X, hX⟩ : ∃ X, dv 4294967296 D * S = X := ⟨_, rfl⟩
  obtain ⟨Y, hY⟩ : ∃ Y, dv 4294967296 E * S = Y := ⟨_, rfl⟩
  have hS0 : 0 < S := by
    rcases Nat.eq_zero_or_pos S with e | e
    · have := HS2.out; subst e; simp at this
    · exact e
  have HS0 := Lib.hid hS0
  have hst := div_start (B := 4294967296) (n := m) (m := n) (A := D) (E := E) (U := RU) (V := RV.take m) (S := S) HLU.out HG1.out.2.1 HG1.out.1 HDU.out (by decide) hS0 HG2.out.1 (by omega) hmn HE2.out HVU.out (by rw [HM2.out]; exact HVV.out.1)
  have hYv : dv 4294967296 (RV.take m) = Y := by rw [HM2.out, HVV.out.1, hY]
  rw [hYv, ← hq1] at hst
  have HYV := Lib.hid hYv
  have HXX := Lib.hid hX
  have HYY := Lib.hid hY
  have HYm := Lib.hid (show Y ≤ 4294967296 ^ m by
    have h4 := dv_lt (B := 4294967296) (by decide) (RV.take m) (dok_take HDV.out m)
    rw [List.length_take, HLV.out, hYv, Nat.min_eq_left (by omega)] at h4
    omega)
  have HST := Lib.hid hst
  have HQ1 := Lib.hid hq1
  have HUX := Lib.hid (show X = dv 4294967296 RU + 4294967296 ^ q1 * (dv 4294967296 ((List.replicate q1 0).drop q1) * Y) by rw [List.drop_of_length_le (by simp), HVU.out, hX]; simp [dv])
  have hq0 : 0 < q1 := by omega
  clear hX hY hst hYv hgq hW4 hb4 hS0 hq1
  go_wp2
  clear hmk
  have hu1 : True := trivial
  go_loopw [12] (fun s12 wr => ∃ (j : Nat) (x : Int) (U Q : List Nat), s12 = .int .i64 x ∧ x = (j : Int) - 1 ∧ j ≤ q1 ∧ U.length = n + 1 ∧ dok 4294967296 U ∧ Q.length = q1 ∧ dok 4294967296 Q ∧ Blk wr gu 86 (dc U) ∧ Blk wr gq 86 (dc Q) ∧ Blk wr gv 86 (dc RV) ∧ X = dv 4294967296 U + 4294967296 ^ j * (dv 4294967296 (Q.drop j) * Y) ∧ dv 4294967296 (U.drop j) < Y ∧ Below w.heap.size w wr) (fun s12 _ => (intOf s12 + 1).toNat)
  case atStart => exact ⟨q1, _, RU, _, rfl, rfl, Nat.le_refl _, HLU.out, HDU.out, by simp, dok_rep (by decide) _, HKU.out, HKQ.out, HKV.out, HUX.out, HST.out, HB4.out⟩
  case round =>
    obtain ⟨j, x, U, Q, rfl, hx, hj, hUl, hUd, hQl, hQd, hku, hkq, hkv, hinv, hlt, hb⟩ := hrel
    replace HKU := Lib.hid hku
    replace HKQ := Lib.hid hkq
    replace HKV := Lib.hid hkv
    replace HLU := Lib.hid hUl
    replace HDU := Lib.hid hUd
    have HLQ := Lib.hid hQl
    have HDQ := Lib.hid hQd
    have HI := Lib.hid hinv
    have HLT := Lib.hid hlt
    have HBW := Lib.hid hb
    clear hku hkq hkv hUl hUd hQl hQd hinv hlt hb HVU HUX HST HB4
    rcases Nat.eq_zero_or_pos j with h0 | h0
    · subst h0
      obtain rfl : x = -1 := by omega
      clear hx
      have hU2 : dv 4294967296 (U.take m) = dv 4294967296 U := by
        have h3 := dv_split 4294967296 U m
        rw [Nat.min_eq_left (by rw [HLU.out]; omega)] at h3
        have h4 := HLT.out
        rw [List.drop_zero] at h4
        have h5 := HYm.out
        rcases Nat.eq_zero_or_pos (dv 4294967296 (U.drop m)) with e | e
        · rw [e] at h3; omega
        · have : 4294967296 ^ m * 1 ≤ 4294967296 ^ m * dv 4294967296 (U.drop m) := Nat.mul_le_mul_left _ e
          omega
      have HFB := Lib.hid (div_back (A := dv 4294967296 D) (E := dv 4294967296 E) (Q := dv 4294967296 Q) (U := dv 4294967296 U) (S := S) HS0.out (by
        rw [HXX.out, HYY.out]
        have h3 := HI.out
        rw [List.drop_zero, Nat.pow_zero, Nat.one_mul] at h3
        exact h3) (by rw [HYY.out]; exact HLT.out))
      have CR := Lib.hid (shiftRight_any (some ⟨gu, 0, none⟩) m (n + 1) s (U.take m) wr (DG.take (n := U.length) (Own.of_blk (base := 0) HKU.out (Nat.zero_le _) HDU.out).dg (by rw [HLU.out]; omega)) (by omega) hs32)
      rw [← HS.out, hU2] at CR
      have hmn1 : (m : Int) ≤ (n : Int) + 1 := by omega
      clear hU2
      go_wp2_with fail
      refine CR.out.mono ?_
      rintro e w5 ⟨gr, R, rfl, hrk, hrg, hrd, hrv, hrl, hrb⟩
      have HRK := Lib.hid hrk
      have HQK := Lib.hid (HKQ.out.below hrb)
      have HRV := Lib.hid hrv
      have HRD := Lib.hid hrd
      have HRL := Lib.hid hrl
      have HRG := Lib.hid (Nat.le_trans HBW.out.size hrg)
      have HBE := Lib.hid (HBW.out.trans (hrb.mono HBW.out.size))
      clear CR hrk hrg hrd hrv hrl hrb
      go_wp2
      go_ret2
      refine ⟨some ⟨gq, 0, none⟩, q1, q1, Q, some ⟨gr, 0, none⟩, m, m, R, rfl, ?_, Sl.own (Nat.le_refl _) (by have := HQ1.out; omega), ?_, Sl.own (Nat.le_refl _) (by omega), by have := HQ1.out; omega, by omega, ?_, ?_, HBE.out⟩
      · have h3 := Own.of_blk HQK.out HGQ.out HDQ.out
        rw [HLQ.out] at h3
        exact h3
      · have h3 := Own.of_blk HRK.out HRG.out HRD.out
        rw [HRL.out] at h3
        exact h3
      · rw [HRV.out]; exact HFB.out.1
      · rw [HRV.out]; exact HFB.out.2
    · obtain ⟨i, rfl⟩ : ∃ i, j = i + 1 := ⟨j - 1, by omega⟩
      obtain rfl : x = (i : Int) := by omega
      clear hx h0
      have hq1v : i + m ≤ n := by have := HQ1.out; omega
      obtain ⟨L, Wn, H, hU, hLl, hWl⟩ : ∃ L Wn H, U = L ++ Wn ++ H ∧ L.length = i ∧ Wn.length = m + 1 := by
        refine ⟨U.take i, (U.drop i).take (m + 1), (U.drop i).drop (m + 1), ?_, ?_, ?_⟩
        · rw [List.append_assoc, List.take_append_drop, List.take_append_drop]
        · rw [List.length_take, HLU.out]; omega
        · rw [List.length_take, List.length_drop, HLU.out]; omega
      subst hU
      have HLl := Lib.hid hLl
      have HWl := Lib.hid hWl
      have hWd : dok 4294967296 Wn := fun d hd => HDU.out d (by simp [hd])
      have HWd := Lib.hid hWd
      have hwlt := win_lt (B := 4294967296) hLl hWl hWd HYm.out HLT.out
      obtain ⟨m0, hm0⟩ : ∃ m0, m1 = m0 + 1 := ⟨m1 - 1, by omega⟩
      obtain ⟨u2, hu2⟩ : ∃ d, Wn[m]? = some d := ⟨_, List.getElem?_eq_getElem (by omega)⟩
      obtain ⟨u1, hu1⟩ : ∃ d, Wn[m1]? = some d := ⟨_, List.getElem?_eq_getElem (by have := HM2.out; omega)⟩
      obtain ⟨u0, hu0⟩ : ∃ d, Wn[m0]? = some d := ⟨_, List.getElem?_eq_getElem (by have := HM2.out; omega)⟩
      obtain ⟨v1, hv1, hv12⟩ := HVV.out.2
      obtain ⟨v0, hv0⟩ : ∃ d, RV[m0]? = some d := ⟨_, List.getElem?_eq_getElem (by rw [HLV.out]; have := HM2.out; omega)⟩
      have CD := Lib.hid (divStep_any gu gv (m + 1) m m1 m0 (n + 1 - i) (m + 1) v1 v0 u2 u1 u0 L Wn H RV wr HKU.out hWl hWd HKV.out HDV.out (by rw [HLV.out]; omega) (by omega) rfl HM2.out hm0 (by omega) (by rw [hLl]; omega) hu2 hu1 hu0 hv1 hv0 hv12 (by rw [HYV.out]; exact hwlt))
      rw [HYV.out, hLl] at CD
      obtain ⟨o, ho⟩ : ∃ o, Q[i]? = some o := ⟨_, List.getElem?_eq_getElem (by rw [HLQ.out]; omega)⟩
      have hiq : (i : Int) < (q1 : Int) := by omega
      have hi0 : (0 : Int) ≤ (i : Int) := by omega
      have HO := Lib.hid ho
      clear hu2 hu1 hu0 hv1 hv12 hv0 hm0 hwlt hWd hWl hLl ho
      obtain ⟨im, him⟩ : ∃ im, im = i + m + 1 := ⟨_, rfl⟩
      have himI : (i : Int) + (m : Int) + 1 = (im : Int) := by omega
      have himn : (im : Int) ≤ (n : Int) + 1 := by omega
      have hiim : (i : Int) ≤ (im : Int) := by omega
      have himi : im - i = m + 1 := by omega
      have HIM := Lib.hid him
      clear him
      go_wp2_with fail
      refine CD.out.mono ?_
      rintro e w5 ⟨rfl, T, hTl, hTd, hTk, hTv, hTo⟩
      have HNW := Lib.hid (div_round (B := 4294967296) (T := T) (Q := Q) (X := X) (by decide) HLl.out HWl.out hTl HWd.out (by rw [HLQ.out]; omega) HYm.out HI.out HLT.out rfl hTv)
      obtain ⟨q, hq⟩ : ∃ q, dv 4294967296 Wn / Y = q := ⟨_, rfl⟩
      rw [hq] at HNW ⊢
      have hqB : q < 4294967296 := HNW.out.2.2.2
      have HTK := Lib.hid hTk
      have HQ5 := Lib.hid (hTo.1 gq _ _ (by omega) HKQ.out)
      have HV5 := Lib.hid (hTo.1 gv _ _ hgvu HKV.out)
      have HB5 := Lib.hid (hTo.2 _ _ HBW.out HGU.out)
      have c9 : w5.cell? ⟨gq, i, none⟩ = some (.int .u32 (o : Int)) := (HQ5.out.cell _).trans (dc_get HO.out)
      have f9 : w5.frozen? ⟨gq, i, none⟩ = false := Joins.unfrozen_of_block HQ5.out _
      have s1 := store_step HQ5.out i (.int .u32 (q : Int))
      have KQ6 := Lib.hid (show Blk (w5.setCell ⟨gq, i, none⟩ (.int .u32 (q : Int))) gq 86 (dc (Q.set i q)) by rw [← dc_set]; exact s1.1)
      have KU6 := Lib.hid (s1.2.1 gu _ _ (by omega) HTK.out)
      have KV6 := Lib.hid (s1.2.1 gv _ _ (by omega) HV5.out)
      have KB6 := Lib.hid (s1.2.2 _ _ HB5.out HGQ.out)
      have HTL := Lib.hid hTl
      have HTD := Lib.hid hTd
      have HQB := Lib.hid hqB
      clear s1 hTl hTd hTk hTv hTo hq CD
      go_wp2
      go_roundw
      case rel =>
        refine ⟨i, _, L ++ T ++ H, Q.set i q, rfl, rfl, by omega, ?_, ?_, by rw [List.length_set]; exact HLQ.out, dok_set HDQ.out _ _ HQB.out, KU6.out, KQ6.out, KV6.out, HNW.out.1, HNW.out.2.1, KB6.out⟩
        · have h3 := HLU.out
          rw [List.length_append, List.length_append] at h3 ⊢
          rw [HTL.out]
          rw [HWl.out] at h3
          exact h3
        · intro d hd
          rcases List.mem_append.1 hd with h3 | h3
          · rcases List.mem_append.1 h3 with h4 | h4
            · exact HDU.out d (by simp [h4])
            · exact HTD.out d h4
          · exact HDU.out d (by simp [h3])
      case measure => simp only [intOf]; omega
theorem div_any (X : Nat) : DivOn X := by
  intro A n c D A2 m c2 E w h h2 n1 n2 hn hm h0 hX
  by_cases hlt : dv 4294967296 D < dv 4294967296 E
  · exact div_lt A n c D A2 m c2 E w h h2 n1 n2 hn hm hlt
  · match E, h2, n2, h0, hX, hlt with
    | [], h2, n2, h0, hX, hlt => exact absurd h0 (by simp [dv])
    | [b], h2, n2, h0, hX, hlt =>
      obtain rfl : m = 1 := h2.1.symm
      exact div_one A n c D A2 c2 b w h h2 n1 n2 hn hlt (by simpa [dv] using h0)
    | b :: b2 :: E, h2, n2, h0, hX, hlt =>
      exact div_many A n c D A2 m (m - 1) c2 (b :: b2 :: E) w h h2 n1 n2 hn (by have := h2.1; simp at this; omega) (by have := h2.1; simp at this; omega) hlt
end Go.Proofs.Ythfolccofjaknaa
