/- Law ChecksumLinear: the walk. -/
import Derived.Test.YtpnemkphdminnaaDoorLin
import Derived.Test.YtpnemkphdminnaaDoorArr
import Derived.Test.YtpnemkphdminnaaDoorLBurW
import Derived.Test.YtpnemkphdminnaaDoorMix
import Derived.Deep.Slices
namespace Go.Proofs.YtpnemkphdminnaaDoor
open Go.ChangeShapes Go.WideShapes Go.ChangeAt Go.RowKit Go.ChangeMaps

abbrev B3 := UInt8 × UInt8 × UInt8
def c3 (x : B3) : Array Value := #[.int .u8 (x.1.toNat : Int), .int .u8 (x.2.1.toNat : Int), .int .u8 (x.2.2.toNat : Int)]
/-- A slice of triples that can be read. -/
def T3 (w : World) (A : Option Addr) (n : Nat) (R : List B3) : Prop := R.length = n ∧ (0 < n → ∃ b off, A = some ⟨b, off, none⟩ ∧ b < w.heap.size ∧ ∀ i x, R[i]? = some x → w.cell? ⟨b, off + i * 3, none⟩ = some (.int .u8 (x.1.toNat : Int)) ∧ w.cell? ⟨b, off + i * 3 + 1, none⟩ = some (.int .u8 (x.2.1.toNat : Int)) ∧ w.cell? ⟨b, off + i * 3 + 2, none⟩ = some (.int .u8 (x.2.2.toNat : Int)))
theorem cells39 : Tryd.prog.cellsOf 39 = 3 := by kernel_rfl
open Go.Deep Go.WideElems in
set_option maxRecDepth 100000 in
theorem open_L3 {H : Type} {enc : TypeId × Value → H} {W : World} {r : Reach} {b0 : Nat} {v : Value} {d : DataW H} {p : List MemPlace}
    (hv : Value.okWide Tryd.prog W r b0 38 v) (h : DataW.Trod enc Tryd.prog W 0 (fun _ => true) true 38 v d p) (hlt : ∀ x ∈ p, x.block < W.heap.size) :
    ∃ (A : Option Addr) (n c : Nat) (R : List B3), v = .slice A n c ∧ T3 W A n R ∧ n ≤ 9223372036854775807 := by
  obtain ⟨a0, len0, cap0, rfl⟩ := okWide_slice Tryd.underlying38 hv
  obtain ⟨fuel, hf⟩ := h
  rcases open_slice Tryd.underlying38 hf with ⟨hcs, hx⟩ | ⟨a, len, cap, m, n, D, Pl, hcs, _, hl, hm, hmm, hx, hi⟩
  · have hcs' : [Value.slice a0 len0 cap0] = [.slice none 0 0] := hcs
    obtain ⟨rfl, rfl, rfl⟩ : a0 = none ∧ len0 = 0 ∧ cap0 = 0 := by simpa using hcs'
    exact ⟨_, _, _, [], rfl, ⟨rfl, fun h => absurd h (by omega)⟩, by omega⟩
  · have hcs' : [Value.slice a0 len0 cap0] = [.slice (some a) len cap] := hcs
    obtain ⟨rfl, rfl, rfl⟩ : a0 = some a ∧ len0 = len ∧ cap0 = cap := by simpa using hcs'
    simp only [if_true] at hmm
    subst hmm
    unfold maxLen at hm
    have key : ∀ i, i < len0 → ∃ x : B3, W.cell? (a.add (i * 3)) = some (.int .u8 (x.1.toNat : Int)) ∧ W.cell? (a.add (i * 3 + 1)) = some (.int .u8 (x.2.1.toNat : Int)) ∧ W.cell? (a.add (i * 3 + 2)) = some (.int .u8 (x.2.2.toNat : Int)) := by
      intro i hil
      obtain ⟨cs', h1, h2⟩ := hi i (by omega)
      rw [cells39] at h1
      obtain ⟨_, hlen, hcell⟩ := World.cells?_some h1
      obtain ⟨xs, k, _, _, _, hxl, hg⟩ := DataW.trod_array Tryd.underlying39 h2
      match cs', hlen with
      | [v0, v1, v2], _ =>
        have one : ∀ j u, j < 3 → [v0, v1, v2][j]? = some u → ∃ x : UInt8, u = .int .u8 (x.toNat : Int) := by
          intro j u hj hu
          have h3 := hg j hj
          rw [Tryd.cells5, Nat.mul_one] at h3
          have hxj : xs[j]? = some (xs[j]'(by omega)) := List.getElem?_eq_getElem (by omega)
          have hone : ([v0, v1, v2].drop j).take 1 = [u] := by
            match j, hj, hu with
            | 0, _, hu => simp at hu; simp [hu]
            | 1, _, hu => simp at hu; simp [hu]
            | 2, _, hu => simp at hu; simp [hu]
          rw [hone, hxj] at h3
          obtain ⟨z, e, _, wf⟩ := DataW.trod_int Tryd.underlying5 h3
          obtain ⟨b1, b2⟩ := u8_bd wf
          refine ⟨u8 z, ?_⟩
          rw [u8_toNat z b1 (by omega)]
          simpa using e
        obtain ⟨x0, rfl⟩ := one 0 v0 (by decide) rfl
        obtain ⟨x1, rfl⟩ := one 1 v1 (by decide) rfl
        obtain ⟨x2, rfl⟩ := one 2 v2 (by decide) rfl
        have e0 := hcell 0 (by omega)
        have e1 := hcell 1 (by omega)
        have e2 := hcell 2 (by omega)
        rw [add_add] at e0 e1 e2
        exact ⟨(x0, x1, x2), by simpa using e0, by simpa using e1, by simpa using e2⟩
    obtain ⟨f, hfp⟩ : ∃ f : Nat → B3, ∀ i, i < len0 → W.cell? (a.add (i * 3)) = some (.int .u8 ((f i).1.toNat : Int)) ∧ W.cell? (a.add (i * 3 + 1)) = some (.int .u8 ((f i).2.1.toNat : Int)) ∧ W.cell? (a.add (i * 3 + 2)) = some (.int .u8 ((f i).2.2.toNat : Int)) :=
      ⟨fun i => if h : i < len0 then Classical.choose (key i h) else (0, 0, 0), fun i h => by simp only [dif_pos h]; exact Classical.choose_spec (key i h)⟩
    refine ⟨_, _, _, (List.range len0).map f, rfl, ⟨by simp, fun hn => ?_⟩, by omega⟩
    obtain ⟨b, off, spot⟩ := a
    have hspot : spot = none := by simpa [Addr.add] using World.cell?_spot (hfp 0 hn).1
    subst hspot
    simp only [Prod.mk.injEq] at hx
    obtain ⟨_, rfl⟩ := hx
    refine ⟨b, off, rfl, hlt (.cell b off) (List.mem_append_left _ (MemPlace.mem_row.2 ⟨0, by rw [cells39]; omega, by simp⟩)), fun i x hix => ?_⟩
    rw [List.getElem?_map, Option.map_eq_some_iff] at hix
    obtain ⟨j, hj, rfl⟩ := hix
    obtain ⟨hjl, rfl⟩ : i < len0 ∧ i = j := by
      have := List.getElem?_eq_some_iff.1 hj
      obtain ⟨h1, h2⟩ := this
      exact ⟨by simpa using h1, by simpa using h2⟩
    have h3 := hfp i hjl
    simp only [add_plain] at h3
    exact ⟨h3.1, by rw [Nat.add_assoc]; exact h3.2.1, by rw [Nat.add_assoc]; exact h3.2.2⟩
def x3 (x : B3) : UInt8 := x.1 ^^^ x.2.1 ^^^ x.2.2
theorem zip_map (f g : B3 → UInt8) : ∀ R : List B3, List.zipWith (· ^^^ ·) (R.map f) (R.map g) = R.map fun x => f x ^^^ g x
  | [] => rfl
  | x :: R => by simp [zip_map f g R]
theorem crc_linear (R : List B3) : crc 0 (R.map x3) = crc 0 (R.map (·.1)) ^^^ crc 0 (R.map (·.2.1)) ^^^ crc 0 (R.map (·.2.2)) := by
  have e : ∀ l, crc 0 l = cM ^^^ turns cM l := fun l => by
    unfold crc
    rw [Nat.sub_zero]
    exact not_xor _ (turns_lt (by decide) l)
  have h1 := turns_xor cM cM (R.map (·.1)) (R.map (·.2.1)) (by simp)
  have h2 := turns_xor (cM ^^^ cM) cM (R.map fun x => x.1 ^^^ x.2.1) (R.map (·.2.2)) (by simp)
  rw [zip_map] at h1 h2
  rw [← h1] at h2
  rw [Nat.xor_self, Nat.zero_xor] at h2
  rw [e, e, e, e, show R.map x3 = R.map (fun x => x.1 ^^^ x.2.1 ^^^ x.2.2) from rfl, ← h2]
  generalize turns cM (R.map (·.1)) = ta
  generalize turns cM (R.map (·.2.1)) = tb
  generalize turns cM (R.map (·.2.2)) = tc
  have h : ∀ m a b c : Nat, m ^^^ (a ^^^ b ^^^ c) = m ^^^ a ^^^ (m ^^^ b) ^^^ (m ^^^ c) := fun m a b c => by
    have : m ^^^ a ^^^ (m ^^^ b) ^^^ (m ^^^ c) = (m ^^^ m) ^^^ (m ^^^ (a ^^^ b ^^^ c)) := by ac_rfl
    rw [this, Nat.xor_self, Nat.zero_xor]
  exact h _ _ _ _
def v4 (a b c d : Value) (k : Nat) : Value := match k with | 0 => a | 1 => b | 2 => c | _ => d
def l4 (R : List B3) (k : Nat) : List UInt8 := match k with | 0 => R.map (·.1) | 1 => R.map (·.2.1) | 2 => R.map (·.2.2) | _ => R.map x3
def e4 (x : B3) (k : Nat) : UInt8 := match k with | 0 => x.1 | 1 => x.2.1 | 2 => x.2.2 | _ => x3 x
def bI (k : Nat) : Nat := match k with | 0 => 3 | 1 => 8 | 2 => 13 | _ => 24
def pI (k : Nat) : Nat := match k with | 0 => 4 | 1 => 9 | 2 => 14 | _ => 25
theorem l4_snoc (R : List B3) (x : B3) (k : Nat) : l4 (R ++ [x]) k = l4 R k ++ [e4 x k] := by
  unfold l4 e4
  split <;> simp
theorem l4_len (R : List B3) (k : Nat) : (l4 R k).length = R.length := by unfold l4; split <;> simp
/-- Four rows of their own, apart. -/
def R4 (w : World) (B0 : Nat) (V : Nat → Value) (R : List B3) : Prop := (∀ k, k < 4 → w.ownsRow B0 5 1 (V k) R.length (bc (l4 R k))) ∧ ∀ j k, j < 4 → k < 4 → j ≠ k → ∀ g, (V j).ownBlock = some g → (V k).ownBlock ≠ some g
theorem four {P : Nat → Prop} (h0 : P 0) (h1 : P 1) (h2 : P 2) (h3 : P 3) : ∀ k, k < 4 → P k := fun k hk => by
  match k, hk with
  | 0, _ => exact h0
  | 1, _ => exact h1
  | 2, _ => exact h2
  | 3, _ => exact h3
theorem bI_ne : ∀ j, j < 4 → ∀ k, k < 4 → bI j ≠ pI k := four (four (by decide) (by decide) (by decide) (by decide)) (four (by decide) (by decide) (by decide) (by decide)) (four (by decide) (by decide) (by decide) (by decide)) (four (by decide) (by decide) (by decide) (by decide))
theorem bI_inj : ∀ j, j < 4 → ∀ k, k < 4 → bI j = bI k → j = k := four (four (by decide) (by decide) (by decide) (by decide)) (four (by decide) (by decide) (by decide) (by decide)) (four (by decide) (by decide) (by decide) (by decide)) (four (by decide) (by decide) (by decide) (by decide))
theorem pI_inj : ∀ j, j < 4 → ∀ k, k < 4 → pI j = pI k → j = k := four (four (by decide) (by decide) (by decide) (by decide)) (four (by decide) (by decide) (by decide) (by decide)) (four (by decide) (by decide) (by decide) (by decide)) (four (by decide) (by decide) (by decide) (by decide))
set_option maxRecDepth 100000 in
set_option maxHeartbeats 4000000 in
theorem checksumLinear_walk (A : Option Addr) (n c : Nat) (R : List B3) (w : World) (ht : T3 w A n R) (hn : n ≤ 9223372036854775807) (he : Env2 w) : Calls Tryd.prog 9 #[.slice A n c] w fun e w' => e = .returned (.bool true) ∧ Below w.heap.size w w' := by
  have HE := Lib.hid he
  have HT := Lib.hid ht
  have HRL := Lib.hid ht.1
  clear he ht
  have HB0 := Lib.hid (Below.refl w.heap.size w)
  go_enter Tryd.func9, Tryd.ntmps9
  go_wp2_with fail
  refine (awake_any _ HE.out).mono ?_
  rintro e w1 ⟨rfl, hb1⟩
  have B1 := Lib.hid hb1
  clear hb1
  by_cases h3 : n > 300
  · have h3I : (n : Int) > 300 := by omega
    have h3J : (300 : Int) < (n : Int) := by omega
    go_wp2_with fail
    refine (awake_any _ (HE.out.below B1.out)).mono ?_
    rintro e w2 ⟨rfl, hb2⟩
    have B2 := Lib.hid (more_below B1.out hb2)
    clear hb2
    go_wp2
    go_ret
    exact ⟨rfl, B2.out⟩
  have h3I : ¬ (n : Int) > 300 := by omega
  have h3J : ¬ (300 : Int) < (n : Int) := by omega
  have HR0 := Lib.hid (show R4 w1 w1.heap.size (v4 (.slice none 0 0) (.slice none 0 0) (.slice none 0 0) (.slice none 0 0)) [] from ⟨four (World.ownsRow_nil ..) (World.ownsRow_nil ..) (World.ownsRow_nil ..) (World.ownsRow_nil ..), fun j k hj hk hjk g e => by
    exfalso
    revert e
    exact (four (P := fun j => (v4 (.slice none 0 0) (.slice none 0 0) (.slice none 0 0) (.slice none 0 0) j).ownBlock ≠ some g) (by simp [v4, Value.ownBlock]) (by simp [v4, Value.ownBlock]) (by simp [v4, Value.ownBlock]) (by simp [v4, Value.ownBlock]) j hj)⟩)
  obtain ⟨B0, hB0⟩ : ∃ B, B = w1.heap.size := ⟨_, rfl⟩
  rw [← hB0] at HR0
  have HB := Lib.hid hB0
  clear hB0
  go_wp2_with fail
  clear h3I h3J
  go_loopw [3, 4, 5, 6, 19] (fun s3 s4 s5 s6 s19 wr => ∃ i : Nat, s19 = .int .i64 (i : Int) ∧ i ≤ n ∧ R4 wr B0 (v4 s3 s4 s5 s6) (R.take i) ∧ Below B0 w1 wr) (fun _ _ _ _ s19 _ => n - (intOf s19).toNat)
  case atStart => exact ⟨0, rfl, Nat.zero_le _, HR0.out, Below.refl _ _⟩
  case round =>
    obtain ⟨i, rfl, hi, hr, hb⟩ := hrel
    have HR := Lib.hid hr
    have HBr := Lib.hid hb
    clear hr hb HR0
    by_cases hlt : i < n
    · have hltI : (i : Int) < (n : Int) := by omega
      have hlt0 : (0 : Int) ≤ (i : Int) := by omega
      obtain ⟨b, off, rfl, hbl, hcell⟩ := HT.out.2 (by omega)
      obtain ⟨x, hx⟩ : ∃ x, R[i]? = some x := ⟨_, List.getElem?_eq_getElem (by rw [HRL.out]; exact hlt)⟩
      have hbw : Below w.heap.size w wr := B1.out.trans ((by have h := HBr.out; rw [HB.out] at h; exact h : Below w1.heap.size w1 wr).mono B1.out.size)
      obtain ⟨q0, q1, q2⟩ := hcell i x hx
      have c0 := keepcell hbw q0
      have c1 := keepcell hbw q1
      have c2 := keepcell hbw q2
      obtain ⟨xa, xb, xc⟩ := x
      have HX := Lib.hid hx
      simp only at c0 c1 c2
      clear hcell q0 q1 q2 hbw hx
      obtain ⟨W2, hW2⟩ : ∃ W, W = wr.alloc (.cells (c3 (xa, xb, xc)) 39) := ⟨_, rfl⟩
      have hsz : B0 ≤ wr.heap.size := by rw [HB.out]; exact HBr.out.size
      have KX := Lib.hid (show Blk W2 wr.heap.size 39 (c3 (xa, xb, xc)) by rw [hW2]; exact Blk.new _ _ _)
      have HW2 := Lib.hid hW2
      have HSZ := Lib.hid hsz
      clear hW2 hsz
      go_upto_region 7 with fail
      rw [show wr.alloc (Obj.cells #[.int .u8 (xa.toNat : Int), .int .u8 (xb.toNat : Int), .int .u8 (xc.toNat : Int)] 39) = W2 from HW2.out.symm]
      clear c0 c1 c2
      have HLI := Lib.hid (show ∀ vs, LI W2 B0 (v4 u3 u4 u5 u6) (l4 (R.take i)) (e4 (xa, xb, xc)) bI pI (fun g => g = wr.heap.size) (fun _ => false) vs W2.drew from
        fun vs => ⟨fun k hk => by
            have h := HR.out.1 k hk
            have hl := l4_len (R.take i) k
            show W2.drew.ownsRow B0 5 1 (v4 u3 u4 u5 u6 k) (l4 (R.take i) k).length (bc (l4 (R.take i) k))
            rw [hl, HW2.out]
            exact (h.alloc _ : _), fun j k hj hk hjk g e => HR.out.2 j k hj hk hjk g e, fun k hk h => Bool.noConfusion h,
          fun g hg => by
            subst hg
            refine ⟨KX.out.lt, rfl, fun j hj e => ?_⟩
            exact Nat.lt_irrefl _ ((HR.out.1 j hj).lt _ e).2, ⟨rfl, rfl, rfl, Nat.le_refl _, fun _ _ => rfl⟩, by rw [HW2.out]; have := HSZ.out; simp; omega⟩)
      obtain ⟨i0, hi5, hz0, hz1, hz2⟩ := info_parts Tryd.info5
      obtain ⟨yy, hyy⟩ : ∃ y, xa ^^^ xb = y := ⟨_, rfl⟩
      obtain ⟨zz, hzz⟩ : ∃ z, yy ^^^ xc = z := ⟨_, rfl⟩
      have e3x : e4 (xa, xb, xc) 3 = zz := by show xa ^^^ xb ^^^ xc = zz; rw [hyy, hzz]
      have HE3 := Lib.hid e3x
      have hx1 : bits BinOp.xor IntKind.u8 (xa.toNat : Int) (xb.toNat : Int) = (yy.toNat : Int) := by rw [← hyy]; exact xor8 xa xb
      have hx2 : bits BinOp.xor IntKind.u8 (yy.toNat : Int) (xc.toNat : Int) = (zz.toNat : Int) := by rw [← hzz]; exact xor8 yy xc
      clear hyy hzz e3x
      have hS0 : Blk W2.drew wr.heap.size 39 (c3 (xa, xb, xc)) := KX.out.drew
      have hI0 := HLI.out
      refine wp_region_mix 26 (fun w' => Blk w' wr.heap.size 39 (c3 (xa, xb, xc))) (by kernel_rfl) (by decide) ?_
      generalize W2.drew = y0 at hS0 hI0 ⊢
      refine wpM_take (i := 0) (oi := ⟨some 23, _, _, _, _, _⟩) (v := ?_) rfl (by decide +kernel) (by decide +kernel) (by decide +kernel) (fun _ _ _ h => h) (Or.inl ⟨by rfl, ?_⟩) hS0 ?_
      case refine_2 =>
        intro w' hSw
        go_simp
        try (with_reducible rfl)
      try simp only [Act.put, List.setIfInBounds_toArray, List.set_cons_zero, List.set_cons_succ]
      refine wpM_take (i := 1) (oi := ⟨some 24, _, _, _, _, _⟩) (v := ?_) rfl (by decide +kernel) (by decide +kernel) (by decide +kernel) (fun _ _ _ h => h) (Or.inl ⟨by rfl, ?_⟩) hS0 ?_
      case refine_2 =>
        intro w' hSw
        go_simp
        try (with_reducible rfl)
      try simp only [Act.put, List.setIfInBounds_toArray, List.set_cons_zero, List.set_cons_succ]
      refine wpM_take (i := 2) (oi := ⟨some 25, _, _, _, _, _⟩) (v := ?_) rfl (by decide +kernel) (by decide +kernel) (by decide +kernel) (fun _ _ _ h => h) (Or.inl ⟨by rfl, ?_⟩) hS0 ?_
      case refine_2 =>
        intro w' hSw
        have k0 : w'.cell? ⟨wr.heap.size, 0, none⟩ = some (.int .u8 (xa.toNat : Int)) := hSw.cell 0
        have k1 : w'.cell? ⟨wr.heap.size, 1, none⟩ = some (.int .u8 (xb.toNat : Int)) := hSw.cell 1
        have k2 : w'.cell? ⟨wr.heap.size, 2, none⟩ = some (.int .u8 (xc.toNat : Int)) := hSw.cell 2
        go_simp
        try (with_reducible rfl)
      try simp only [Act.put, List.setIfInBounds_toArray, List.set_cons_zero, List.set_cons_succ]
      refine wpM_take (i := 5) (oi := ⟨some 28, _, _, _, _, _⟩) (v := ?_) rfl (by decide +kernel) (by decide +kernel) (by decide +kernel) (fun _ _ _ h => h) (Or.inl ⟨by rfl, ?_⟩) hS0 ?_
      case refine_2 =>
        intro w' hSw
        go_simp
        try (with_reducible rfl)
      try simp only [Act.put, List.setIfInBounds_toArray, List.set_cons_zero, List.set_cons_succ]
      refine wpM_take (i := 6) (oi := ⟨some 29, _, _, _, _, _⟩) (v := ?_) rfl (by decide +kernel) (by decide +kernel) (by decide +kernel) (fun _ _ _ h => h) (Or.inl ⟨by rfl, ?_⟩) hS0 ?_
      case refine_2 =>
        intro w' hSw
        go_simp
        try (with_reducible rfl)
      try simp only [Act.put, List.setIfInBounds_toArray, List.set_cons_zero, List.set_cons_succ]
      refine wpM_take (i := 7) (oi := ⟨some 30, _, _, _, _, _⟩) (v := ?_) rfl (by decide +kernel) (by decide +kernel) (by decide +kernel) (fun _ _ _ h => h) (Or.inl ⟨by rfl, ?_⟩) hS0 ?_
      case refine_2 =>
        intro w' hSw
        have k0 : w'.cell? ⟨wr.heap.size, 0, none⟩ = some (.int .u8 (xa.toNat : Int)) := hSw.cell 0
        have k1 : w'.cell? ⟨wr.heap.size, 1, none⟩ = some (.int .u8 (xb.toNat : Int)) := hSw.cell 1
        have k2 : w'.cell? ⟨wr.heap.size, 2, none⟩ = some (.int .u8 (xc.toNat : Int)) := hSw.cell 2
        go_simp
        try (with_reducible rfl)
      try simp only [Act.put, List.setIfInBounds_toArray, List.set_cons_zero, List.set_cons_succ]
      refine wpM_take (i := 10) (oi := ⟨some 33, _, _, _, _, _⟩) (v := ?_) rfl (by decide +kernel) (by decide +kernel) (by decide +kernel) (fun _ _ _ h => h) (Or.inl ⟨by rfl, ?_⟩) hS0 ?_
      case refine_2 =>
        intro w' hSw
        go_simp
        try (with_reducible rfl)
      try simp only [Act.put, List.setIfInBounds_toArray, List.set_cons_zero, List.set_cons_succ]
      refine wpM_take (i := 11) (oi := ⟨some 34, _, _, _, _, _⟩) (v := ?_) rfl (by decide +kernel) (by decide +kernel) (by decide +kernel) (fun _ _ _ h => h) (Or.inl ⟨by rfl, ?_⟩) hS0 ?_
      case refine_2 =>
        intro w' hSw
        go_simp
        try (with_reducible rfl)
      try simp only [Act.put, List.setIfInBounds_toArray, List.set_cons_zero, List.set_cons_succ]
      refine wpM_take (i := 12) (oi := ⟨some 35, _, _, _, _, _⟩) (v := ?_) rfl (by decide +kernel) (by decide +kernel) (by decide +kernel) (fun _ _ _ h => h) (Or.inl ⟨by rfl, ?_⟩) hS0 ?_
      case refine_2 =>
        intro w' hSw
        have k0 : w'.cell? ⟨wr.heap.size, 0, none⟩ = some (.int .u8 (xa.toNat : Int)) := hSw.cell 0
        have k1 : w'.cell? ⟨wr.heap.size, 1, none⟩ = some (.int .u8 (xb.toNat : Int)) := hSw.cell 1
        have k2 : w'.cell? ⟨wr.heap.size, 2, none⟩ = some (.int .u8 (xc.toNat : Int)) := hSw.cell 2
        go_simp
        try (with_reducible rfl)
      try simp only [Act.put, List.setIfInBounds_toArray, List.set_cons_zero, List.set_cons_succ]
      refine wpM_take (i := 15) (oi := ⟨some 38, _, _, _, _, _⟩) (v := ?_) rfl (by decide +kernel) (by decide +kernel) (by decide +kernel) (fun _ _ _ h => h) (Or.inl ⟨by rfl, ?_⟩) hS0 ?_
      case refine_2 =>
        intro w' hSw
        go_simp
        try (with_reducible rfl)
      try simp only [Act.put, List.setIfInBounds_toArray, List.set_cons_zero, List.set_cons_succ]
      refine wpM_take (i := 16) (oi := ⟨some 39, _, _, _, _, _⟩) (v := ?_) rfl (by decide +kernel) (by decide +kernel) (by decide +kernel) (fun _ _ _ h => h) (Or.inl ⟨by rfl, ?_⟩) hS0 ?_
      case refine_2 =>
        intro w' hSw
        go_simp
        try (with_reducible rfl)
      try simp only [Act.put, List.setIfInBounds_toArray, List.set_cons_zero, List.set_cons_succ]
      refine wpM_take (i := 17) (oi := ⟨some 40, _, _, _, _, _⟩) (v := ?_) rfl (by decide +kernel) (by decide +kernel) (by decide +kernel) (fun _ _ _ h => h) (Or.inl ⟨by rfl, ?_⟩) hS0 ?_
      case refine_2 =>
        intro w' hSw
        have k0 : w'.cell? ⟨wr.heap.size, 0, none⟩ = some (.int .u8 (xa.toNat : Int)) := hSw.cell 0
        have k1 : w'.cell? ⟨wr.heap.size, 1, none⟩ = some (.int .u8 (xb.toNat : Int)) := hSw.cell 1
        have k2 : w'.cell? ⟨wr.heap.size, 2, none⟩ = some (.int .u8 (xc.toNat : Int)) := hSw.cell 2
        go_simp
        try (with_reducible rfl)
      try simp only [Act.put, List.setIfInBounds_toArray, List.set_cons_zero, List.set_cons_succ]
      refine wpM_take (i := 18) (oi := ⟨some 41, _, _, _, _, _⟩) (v := ?_) rfl (by decide +kernel) (by decide +kernel) (by decide +kernel) (fun _ _ _ h => h) (Or.inl ⟨by rfl, ?_⟩) hS0 ?_
      case refine_2 =>
        intro w' hSw
        go_simp
        try (with_reducible rfl)
      try simp only [Act.put, List.setIfInBounds_toArray, List.set_cons_zero, List.set_cons_succ]
      refine wpM_take (i := 19) (oi := ⟨some 42, _, _, _, _, _⟩) (v := ?_) rfl (by decide +kernel) (by decide +kernel) (by decide +kernel) (fun _ _ _ h => h) (Or.inl ⟨by rfl, ?_⟩) hS0 ?_
      case refine_2 =>
        intro w' hSw
        have k0 : w'.cell? ⟨wr.heap.size, 0, none⟩ = some (.int .u8 (xa.toNat : Int)) := hSw.cell 0
        have k1 : w'.cell? ⟨wr.heap.size, 1, none⟩ = some (.int .u8 (xb.toNat : Int)) := hSw.cell 1
        have k2 : w'.cell? ⟨wr.heap.size, 2, none⟩ = some (.int .u8 (xc.toNat : Int)) := hSw.cell 2
        go_simp
        try (with_reducible rfl)
      try simp only [Act.put, List.setIfInBounds_toArray, List.set_cons_zero, List.set_cons_succ]
      refine wpM_take (i := 20) (oi := ⟨some 43, _, _, _, _, _⟩) (v := ?_) rfl (by decide +kernel) (by decide +kernel) (by decide +kernel) (fun _ _ _ h => h) (Or.inl ⟨by rfl, ?_⟩) hS0 ?_
      case refine_2 =>
        intro w' hSw
        go_simp
        try (with_reducible rfl)
      try simp only [Act.put, List.setIfInBounds_toArray, List.set_cons_zero, List.set_cons_succ]
      refine wpM_take (i := 21) (oi := ⟨some 44, _, _, _, _, _⟩) (v := ?_) rfl (by decide +kernel) (by decide +kernel) (by decide +kernel) (fun _ _ _ h => h) (Or.inl ⟨by rfl, ?_⟩) hS0 ?_
      case refine_2 =>
        intro w' hSw
        go_simp
        try (with_reducible rfl)
      try simp only [Act.put, List.setIfInBounds_toArray, List.set_cons_zero, List.set_cons_succ]
      refine wpM_take (i := 22) (oi := ⟨some 45, _, _, _, _, _⟩) (v := ?_) rfl (by decide +kernel) (by decide +kernel) (by decide +kernel) (fun _ _ _ h => h) (Or.inl ⟨by rfl, ?_⟩) hS0 ?_
      case refine_2 =>
        intro w' hSw
        have k0 : w'.cell? ⟨wr.heap.size, 0, none⟩ = some (.int .u8 (xa.toNat : Int)) := hSw.cell 0
        have k1 : w'.cell? ⟨wr.heap.size, 1, none⟩ = some (.int .u8 (xb.toNat : Int)) := hSw.cell 1
        have k2 : w'.cell? ⟨wr.heap.size, 2, none⟩ = some (.int .u8 (xc.toNat : Int)) := hSw.cell 2
        go_simp
        try (with_reducible rfl)
      try simp only [Act.put, List.setIfInBounds_toArray, List.set_cons_zero, List.set_cons_succ]
      refine wpM_take (i := 23) (oi := ⟨some 46, _, _, _, _, _⟩) (v := ?_) rfl (by decide +kernel) (by decide +kernel) (by decide +kernel) (fun _ _ _ h => h) (Or.inl ⟨by rfl, ?_⟩) hS0 ?_
      case refine_2 =>
        intro w' hSw
        go_simp
        try (with_reducible rfl)
      try simp only [Act.put, List.setIfInBounds_toArray, List.set_cons_zero, List.set_cons_succ]
      clear HLI
      refine wpM_inv (fun i => 23 + i) [3, 4, 8, 9, 13, 14, 24, 25] (LI W2 B0 (v4 u3 u4 u5 u6) (l4 (R.take i)) (e4 (xa, xb, xc)) bI pI (fun g => g = wr.heap.size)) (by decide +kernel) (fun d vs w h => by obtain ⟨h1, h2, _⟩ := h.keep _ rfl; exact h2.trans KX.out) (hI0 _) ?_ ?_
      · refine List.forall_mem_cons.2 ⟨?_, List.forall_mem_cons.2 ⟨?_, List.forall_mem_cons.2 ⟨?_, List.forall_mem_cons.2 ⟨?_, List.forall_mem_cons.2 ⟨?_, List.forall_mem_cons.2 ⟨?_, List.forall_mem_cons.2 ⟨?_, List.forall_mem_cons.2 ⟨?_, List.forall_mem_nil _⟩⟩⟩⟩⟩⟩⟩⟩
        · refine ⟨⟨some 26, _, _, _, _, _⟩, rfl, rfl, fun d vs W K hI hdi hd hK => ?_⟩
          simp only [puts, List.foldl_cons, List.foldl_nil, Act.put, List.setIfInBounds_toArray, List.set_cons_zero, List.set_cons_succ, Nat.reduceAdd, Nat.reduceSub, Nat.reduceEqDiff, ↓reduceIte, reduceCtorEq] at hK ⊢
          go_simp
          have hm := hI.made (k := 0) (by decide) (fun j hj e => bI_ne 0 (by decide) j hj e.symm) (fun j hj => bI_inj j hj 0 (by decide))
          exact hK _ _ hm
        · refine ⟨⟨some 27, _, _, _, _, _⟩, rfl, rfl, fun d vs W K hI hdi hd hK => ?_⟩
          obtain ⟨g, e3, hgb, hn3⟩ := hI.new 0 (by decide) (hd 3 (by decide) (by decide +kernel))
          replace e3 : vs 3 = .slice (some ⟨g, 0, none⟩) 1 1 := e3
          have ho := hI.row (k := 0) (by decide) hdi
          have hl := l4_len (R.take i) 0
          have htk : (R.take i).length = i := by rw [List.length_take, HRL.out]; omega
          rw [hl, htk] at ho
          clear hd
          simp only [puts, List.foldl_cons, List.foldl_nil, Act.put, List.setIfInBounds_toArray, List.set_cons_zero, List.set_cons_succ, Nat.reduceAdd, Nat.reduceSub, Nat.reduceEqDiff, ↓reduceIte, reduceCtorEq] at hK ⊢
          simp only [e3] at hK ⊢
          rw [if_pos (show Region.wanted _ _ = true from rfl)]
          refine wp_append_src W _ _ 22 22 (by rfl) B0 5 i0 _ 1 1 Tryd.underlying22 hi5 hz0 hz1 hz2 rfl u3 i _ (by rfl) ho (.slice (some ⟨g, 0, none⟩) 1 1) 1 _ (by rfl) (src_news [xa] rfl hgb) (by unfold maxLen; omega) (by omega) hI.base (fun v' w' h2 h3 h4 => ?_)
          refine hK _ _ (hI.grown (k := 0) (by decide) hdi (fun j hj => pI_inj j hj 0 (by decide)) (fun j hj => bI_ne j hj 0 (by decide)) ?_ h3 h4)
          rw [List.length_append, hl, htk, bc_app]
          exact h2
        · refine ⟨⟨some 31, _, _, _, _, _⟩, rfl, rfl, fun d vs W K hI hdi hd hK => ?_⟩
          simp only [puts, List.foldl_cons, List.foldl_nil, Act.put, List.setIfInBounds_toArray, List.set_cons_zero, List.set_cons_succ, Nat.reduceAdd, Nat.reduceSub, Nat.reduceEqDiff, ↓reduceIte, reduceCtorEq] at hK ⊢
          go_simp
          have hm := hI.made (k := 1) (by decide) (fun j hj e => bI_ne 1 (by decide) j hj e.symm) (fun j hj => bI_inj j hj 1 (by decide))
          exact hK _ _ hm
        · refine ⟨⟨some 32, _, _, _, _, _⟩, rfl, rfl, fun d vs W K hI hdi hd hK => ?_⟩
          obtain ⟨g, e3, hgb, hn3⟩ := hI.new 1 (by decide) (hd 8 (by decide) (by decide +kernel))
          replace e3 : vs 8 = .slice (some ⟨g, 0, none⟩) 1 1 := e3
          have ho := hI.row (k := 1) (by decide) hdi
          have hl := l4_len (R.take i) 1
          have htk : (R.take i).length = i := by rw [List.length_take, HRL.out]; omega
          rw [hl, htk] at ho
          clear hd
          simp only [puts, List.foldl_cons, List.foldl_nil, Act.put, List.setIfInBounds_toArray, List.set_cons_zero, List.set_cons_succ, Nat.reduceAdd, Nat.reduceSub, Nat.reduceEqDiff, ↓reduceIte, reduceCtorEq] at hK ⊢
          simp only [e3] at hK ⊢
          rw [if_pos (show Region.wanted _ _ = true from rfl)]
          refine wp_append_src W _ _ 22 22 (by rfl) B0 5 i0 _ 1 1 Tryd.underlying22 hi5 hz0 hz1 hz2 rfl u4 i _ (by rfl) ho (.slice (some ⟨g, 0, none⟩) 1 1) 1 _ (by rfl) (src_news [xb] rfl hgb) (by unfold maxLen; omega) (by omega) hI.base (fun v' w' h2 h3 h4 => ?_)
          refine hK _ _ (hI.grown (k := 1) (by decide) hdi (fun j hj => pI_inj j hj 1 (by decide)) (fun j hj => bI_ne j hj 1 (by decide)) ?_ h3 h4)
          rw [List.length_append, hl, htk, bc_app]
          exact h2
        · refine ⟨⟨some 36, _, _, _, _, _⟩, rfl, rfl, fun d vs W K hI hdi hd hK => ?_⟩
          simp only [puts, List.foldl_cons, List.foldl_nil, Act.put, List.setIfInBounds_toArray, List.set_cons_zero, List.set_cons_succ, Nat.reduceAdd, Nat.reduceSub, Nat.reduceEqDiff, ↓reduceIte, reduceCtorEq] at hK ⊢
          go_simp
          have hm := hI.made (k := 2) (by decide) (fun j hj e => bI_ne 2 (by decide) j hj e.symm) (fun j hj => bI_inj j hj 2 (by decide))
          exact hK _ _ hm
        · refine ⟨⟨some 37, _, _, _, _, _⟩, rfl, rfl, fun d vs W K hI hdi hd hK => ?_⟩
          obtain ⟨g, e3, hgb, hn3⟩ := hI.new 2 (by decide) (hd 13 (by decide) (by decide +kernel))
          replace e3 : vs 13 = .slice (some ⟨g, 0, none⟩) 1 1 := e3
          have ho := hI.row (k := 2) (by decide) hdi
          have hl := l4_len (R.take i) 2
          have htk : (R.take i).length = i := by rw [List.length_take, HRL.out]; omega
          rw [hl, htk] at ho
          clear hd
          simp only [puts, List.foldl_cons, List.foldl_nil, Act.put, List.setIfInBounds_toArray, List.set_cons_zero, List.set_cons_succ, Nat.reduceAdd, Nat.reduceSub, Nat.reduceEqDiff, ↓reduceIte, reduceCtorEq] at hK ⊢
          simp only [e3] at hK ⊢
          rw [if_pos (show Region.wanted _ _ = true from rfl)]
          refine wp_append_src W _ _ 22 22 (by rfl) B0 5 i0 _ 1 1 Tryd.underlying22 hi5 hz0 hz1 hz2 rfl u5 i _ (by rfl) ho (.slice (some ⟨g, 0, none⟩) 1 1) 1 _ (by rfl) (src_news [xc] rfl hgb) (by unfold maxLen; omega) (by omega) hI.base (fun v' w' h2 h3 h4 => ?_)
          refine hK _ _ (hI.grown (k := 2) (by decide) hdi (fun j hj => pI_inj j hj 2 (by decide)) (fun j hj => bI_ne j hj 2 (by decide)) ?_ h3 h4)
          rw [List.length_append, hl, htk, bc_app]
          exact h2
        · refine ⟨⟨some 47, _, _, _, _, _⟩, rfl, rfl, fun d vs W K hI hdi hd hK => ?_⟩
          simp only [puts, List.foldl_cons, List.foldl_nil, Act.put, List.setIfInBounds_toArray, List.set_cons_zero, List.set_cons_succ, Nat.reduceAdd, Nat.reduceSub, Nat.reduceEqDiff, ↓reduceIte, reduceCtorEq] at hK ⊢
          go_simp
          have hm := hI.made (k := 3) (by decide) (fun j hj e => bI_ne 3 (by decide) j hj e.symm) (fun j hj => bI_inj j hj 3 (by decide))
          rw [HE3.out] at hm
          exact hK _ _ hm
        · refine ⟨⟨some 48, _, _, _, _, _⟩, rfl, rfl, fun d vs W K hI hdi hd hK => ?_⟩
          obtain ⟨g, e3, hgb, hn3⟩ := hI.new 3 (by decide) (hd 24 (by decide) (by decide +kernel))
          replace e3 : vs 24 = .slice (some ⟨g, 0, none⟩) 1 1 := e3
          rw [HE3.out] at hgb
          have ho := hI.row (k := 3) (by decide) hdi
          have hl := l4_len (R.take i) 3
          have htk : (R.take i).length = i := by rw [List.length_take, HRL.out]; omega
          rw [hl, htk] at ho
          clear hd
          simp only [puts, List.foldl_cons, List.foldl_nil, Act.put, List.setIfInBounds_toArray, List.set_cons_zero, List.set_cons_succ, Nat.reduceAdd, Nat.reduceSub, Nat.reduceEqDiff, ↓reduceIte, reduceCtorEq] at hK ⊢
          simp only [e3] at hK ⊢
          rw [if_pos (show Region.wanted _ _ = true from rfl)]
          refine wp_append_src W _ _ 22 22 (by rfl) B0 5 i0 _ 1 1 Tryd.underlying22 hi5 hz0 hz1 hz2 rfl u6 i _ (by rfl) ho (.slice (some ⟨g, 0, none⟩) 1 1) 1 _ (by rfl) (src_news [zz] rfl hgb) (by unfold maxLen; omega) (by omega) hI.base (fun v' w' h2 h3 h4 => ?_)
          refine hK _ _ (hI.grown (k := 3) (by decide) hdi (fun j hj => pI_inj j hj 3 (by decide)) (fun j hj => bI_ne j hj 3 (by decide)) ?_ h3 h4)
          rw [List.length_append, hl, htk, bc_app, HE3.out]
          exact h2
      · intro d vs W hd hI
        have hfin := hI.fin (four (hd 4 (by decide)) (hd 9 (by decide)) (hd 14 (by decide)) (hd 25 (by decide)))
        have HN := Lib.hid (show R4 W B0 (v4 (vs 4) (vs 9) (vs 14) (vs 25)) (R.take (i + 1)) from by
          have ev : ∀ k, k < 4 → v4 (vs 4) (vs 9) (vs 14) (vs 25) k = vs (pI k) := four rfl rfl rfl rfl
          have el : R.take (i + 1) = R.take i ++ [(xa, xb, xc)] := by rw [List.take_add_one, HX.out]; rfl
          refine ⟨fun k hk => ?_, fun j k hj hk hjk g e => ?_⟩
          · have h := hfin.1 k hk
            rw [← l4_snoc, ← el, l4_len] at h
            rw [ev k hk]
            exact h
          · rw [ev j hj] at e
            rw [ev k hk]
            exact hfin.2 j k hj hk hjk g e)
        have HBn := Lib.hid (show Below B0 w1 W from by
          have h1 : Below B0 wr W2 := by rw [HW2.out]; exact (Below.refl _ _).alloc HSZ.out _
          exact (HBr.out.trans h1).trans hI.below)
        clear hd hI hfin hI0 hS0
        simp only [puts, List.foldl_cons, List.foldl_nil, Act.put, List.setIfInBounds_toArray, List.set_cons_zero, List.set_cons_succ, Nat.reduceAdd, Nat.reduceSub, Nat.reduceEqDiff, ↓reduceIte, reduceCtorEq]
        simp only [List.drop_succ_cons, List.drop_zero]
        go_wp2
        go_roundw
        case rel => exact ⟨i + 1, by go_num, by omega, HN.out, HBn.out⟩
        case measure => simp only [intOf]; omega
    · obtain rfl : i = n := by omega
      clear hlt
      have HF := Lib.hid (show R4 wr B0 (v4 u3 u4 u5 u6) R from by have h := HR.out; rwa [List.take_of_length_le (by rw [HRL.out]; exact Nat.le_refl _)] at h)
      have hbw : Below w.heap.size w wr := B1.out.trans ((by have h := HBr.out; rw [HB.out] at h; exact h : Below w1.heap.size w1 wr).mono B1.out.size)
      have HBF := Lib.hid hbw
      have HEr := Lib.hid (HE.out.below hbw)
      clear hbw
      obtain ⟨Aa, ca, ea, ba, la, ma⟩ := own_bytes2 (n := R.length) (by simp) (by have h := HF.out.1 0 (by decide); rw [← l4_len R 0] at h; exact h : wr.ownsRow B0 5 1 u3 (R.map (·.1)).length (bc (R.map (·.1))))
      obtain ⟨Ab, cb, eb, bb, lb, mb⟩ := own_bytes2 (n := R.length) (by simp) (by have h := HF.out.1 1 (by decide); rw [← l4_len R 1] at h; exact h : wr.ownsRow B0 5 1 u4 (R.map (·.2.1)).length (bc (R.map (·.2.1))))
      obtain ⟨Ac, cc, ec, bc', lc, mc⟩ := own_bytes2 (n := R.length) (by simp) (by have h := HF.out.1 2 (by decide); rw [← l4_len R 2] at h; exact h : wr.ownsRow B0 5 1 u5 (R.map (·.2.2)).length (bc (R.map (·.2.2))))
      obtain ⟨Ad, cd, ed, bd, ld, md⟩ := own_bytes2 (n := R.length) (by simp) (by have h := HF.out.1 3 (by decide); rw [← l4_len R 3] at h; exact h : wr.ownsRow B0 5 1 u6 (R.map x3).length (bc (R.map x3)))
      subst ea
      subst eb
      subst ec
      subst ed
      have hRn : R.length ≤ 300 := by rw [HRL.out]; omega
      obtain ⟨ka, hka⟩ : ∃ k, crc 0 (R.map (·.1)) = k := ⟨_, rfl⟩
      obtain ⟨kb, hkb⟩ : ∃ k, crc 0 (R.map (·.2.1)) = k := ⟨_, rfl⟩
      obtain ⟨kc, hkc⟩ : ∃ k, crc 0 (R.map (·.2.2)) = k := ⟨_, rfl⟩
      obtain ⟨kd, hkd⟩ : ∃ k, crc 0 (R.map x3) = k := ⟨_, rfl⟩
      obtain ⟨k2, hk2⟩ : ∃ k, ka ^^^ kb = k := ⟨_, rfl⟩
      have hla : ka < 18446744073709551616 := by rw [← hka]; exact crc_lt _ _
      have hlb : kb < 18446744073709551616 := by rw [← hkb]; exact crc_lt _ _
      have hlc : kc < 18446744073709551616 := by rw [← hkc]; exact crc_lt _ _
      have hl2 : k2 < 18446744073709551616 := by rw [← hk2]; exact xor_lt64 hla hlb
      have hk3 : k2 ^^^ kc = kd := by rw [← hk2, ← hka, ← hkb, ← hkc, ← hkd]; exact (crc_linear R).symm
      have hx1 : bits BinOp.xor IntKind.u64 (ka : Int) (kb : Int) = (k2 : Int) := by rw [← hk2]; exact ixor hla hlb
      have hx2 : bits BinOp.xor IntKind.u64 (k2 : Int) (kc : Int) = (kd : Int) := by rw [← hk3]; exact ixor hl2 hlc
      have Ca := Lib.hid (Sum_ex _ (z := (ka : Int)) (c := ca) wr (by rw [hka]) ba hRn HEr.out.e)
      have Cb := Lib.hid (Sum_ex _ (z := (kb : Int)) (c := cb) wr (by rw [hkb]) bb hRn HEr.out.e)
      have Cc := Lib.hid (Sum_ex _ (z := (kc : Int)) (c := cc) wr (by rw [hkc]) bc' hRn HEr.out.e)
      have Cd := Lib.hid (Sum_ex _ (z := (kd : Int)) (c := cd) wr (by rw [hkd]) bd hRn HEr.out.e)
      clear ba bb bc' bd hla hlb hlc hl2 hk2 hk3 hka hkb hkc hkd
      go_wp2_with fail
      refine Cd.out.mono ?_
      rintro e w' ⟨rfl, hy⟩
      subst hy
      go_wp2_with fail
      refine Ca.out.mono ?_
      rintro e w' ⟨rfl, hy⟩
      subst hy
      go_wp2_with fail
      refine Cb.out.mono ?_
      rintro e w' ⟨rfl, hy⟩
      subst hy
      go_wp2_with fail
      refine Cc.out.mono ?_
      rintro e w' ⟨rfl, hy⟩
      subst hy
      go_wp2
      go_ret
      exact ⟨rfl, HBF.out⟩
end Go.Proofs.YtpnemkphdminnaaDoor
