/- Bmt Blk Btr Bsg Bml Bcm Btp Bad Bsu Bof Bsm Bsi Bsl Blw Bap Bsb Bnm in one text. -/
import Derived.Test.YthfolccofjaknaaMA
import Derived.Lib.SmallJoins
import Derived.BigRegion
import Derived.BigQuiet
import Derived.Lib.QuietBelow
import Derived.Deep.Cut
import Derived.Deep.MidRow
import Derived.Deep.AppendSrc
namespace Go.Proofs.Ythfolccofjaknaa
open Go.ChangeShapes Go.WideShapes Go.ChangeAt Go.RowKit Go.ChangeMaps
section
def dv (B : Nat) : List Nat → Nat
  | [] => 0
  | d :: l => d + B * dv B l
def dok (B : Nat) (l : List Nat) : Prop := ∀ d ∈ l, d < B
theorem dok_nil (B : Nat) : dok B [] := fun d h => by cases h
theorem dok_cons {B d : Nat} {l : List Nat} : dok B (d :: l) ↔ d < B ∧ dok B l := by simp [dok]
theorem dok_app {B : Nat} {l m : List Nat} : dok B (l ++ m) ↔ dok B l ∧ dok B m := by
  unfold dok
  constructor
  · intro h
    exact ⟨fun d hd => h d (by simp [hd]), fun d hd => h d (by simp [hd])⟩
  · rintro ⟨h1, h2⟩ d hd
    rcases List.mem_append.1 hd with h | h
    · exact h1 d h
    · exact h2 d h
theorem dok_take {B : Nat} {l : List Nat} (h : dok B l) (k : Nat) : dok B (l.take k) := fun d hd => h d (List.mem_of_mem_take hd)
theorem dok_drop {B : Nat} {l : List Nat} (h : dok B l) (k : Nat) : dok B (l.drop k) := fun d hd => h d (List.mem_of_mem_drop hd)
theorem dok_at {B : Nat} {l : List Nat} (h : dok B l) {i d : Nat} (hi : l[i]? = some d) : d < B := h d (List.mem_of_getElem? hi)
theorem dok_set {B : Nat} {l : List Nat} (h : dok B l) (i d : Nat) (hd : d < B) : dok B (l.set i d) := fun x hx => by
  rcases List.mem_or_eq_of_mem_set hx with g | g
  · exact h x g
  · omega
theorem dok_rep {B : Nat} (h : 0 < B) (n : Nat) : dok B (List.replicate n 0) := fun d hd => by rw [List.eq_of_mem_replicate hd]; exact h
theorem dv_app (B : Nat) (l m : List Nat) : dv B (l ++ m) = dv B l + B ^ l.length * dv B m := by
  induction l with
  | nil => simp [dv]
  | cons d l ih =>
    simp only [List.cons_append, dv, List.length_cons, ih, Nat.pow_succ]
    rw [Nat.mul_add, Nat.add_assoc, ← Nat.mul_assoc, Nat.mul_comm B (B ^ l.length)]
theorem dv_zeros (B n : Nat) : dv B (List.replicate n 0) = 0 := by
  induction n with
  | zero => rfl
  | succ n ih => simp [List.replicate_succ, dv, ih]
theorem dv_lt {B : Nat} (_hB : 0 < B) (l : List Nat) (h : dok B l) : dv B l < B ^ l.length := by
  induction l with
  | nil => simp [dv]
  | cons d l ih =>
    obtain ⟨h1, h2⟩ := dok_cons.1 h
    have h3 := ih h2
    simp only [dv, List.length_cons, Nat.pow_succ]
    have : B * (dv B l + 1) ≤ B * B ^ l.length := Nat.mul_le_mul_left _ h3
    rw [Nat.mul_add, Nat.mul_one] at this
    rw [Nat.mul_comm (B ^ l.length) B]
    omega
theorem dv_take_succ (B : Nat) (l : List Nat) (i d : Nat) (h : l[i]? = some d) : dv B (l.take (i + 1)) = dv B (l.take i) + B ^ i * d := by
  obtain ⟨hi, he⟩ := List.getElem?_eq_some_iff.1 h
  rw [List.take_succ_eq_append_getElem hi, dv_app, List.length_take, Nat.min_eq_left (by omega), he]
  simp [dv]
theorem dv_drop_cons (B : Nat) (l : List Nat) (i d : Nat) (h : l[i]? = some d) : dv B (l.drop i) = d + B * dv B (l.drop (i + 1)) := by
  obtain ⟨hi, he⟩ := List.getElem?_eq_some_iff.1 h
  rw [List.drop_eq_getElem_cons hi, he]; rfl
theorem dv_split (B : Nat) (l : List Nat) (i : Nat) : dv B l = dv B (l.take i) + B ^ (min i l.length) * dv B (l.drop i) := by
  conv => lhs; rw [← List.take_append_drop i l]
  rw [dv_app, List.length_take]
theorem dv_inj {B : Nat} (hB : 0 < B) : ∀ (l m : List Nat), l.length = m.length → dok B l → dok B m → dv B l = dv B m → l = m
  | [], [], _, _, _, _ => rfl
  | [], _ :: _, h, _, _, _ => by simp at h
  | _ :: _, [], h, _, _, _ => by simp at h
  | d :: l, e :: m, h, hl, hm, hv => by
    obtain ⟨h1, h2⟩ := dok_cons.1 hl
    obtain ⟨h3, h4⟩ := dok_cons.1 hm
    simp only [dv] at hv
    have e1 : d % B = e % B := by
      have := congrArg (· % B) hv
      simpa [Nat.add_mul_mod_self_left] using this
    rw [Nat.mod_eq_of_lt h1, Nat.mod_eq_of_lt h3] at e1
    subst e1
    have e2 : B * dv B l = B * dv B m := by omega
    have := Nat.eq_of_mul_eq_mul_left hB e2
    rw [dv_inj hB l m (by simpa using h) h2 h4 this]
/-- No zero at the end. -/
def nmz (l : List Nat) : Prop := ∀ d, l[l.length - 1]? = some d → d ≠ 0
theorem nmz_nil : nmz [] := fun d h => by simp at h
theorem nmz_low {B : Nat} (_hB : 0 < B) (l : List Nat) (h : nmz l) (hl : 0 < l.length) : B ^ (l.length - 1) ≤ dv B l := by
  have hg : l[l.length - 1]? = some l[l.length - 1] := List.getElem?_eq_getElem (by omega)
  have h1 := h _ hg
  have h2 := dv_take_succ B l (l.length - 1) _ hg
  rw [show l.length - 1 + 1 = l.length by omega, List.take_length] at h2
  have h3 : B ^ (l.length - 1) * 1 ≤ B ^ (l.length - 1) * l[l.length - 1] := Nat.mul_le_mul_left _ (by omega)
  omega
theorem nmz_len {B : Nat} (hB : 1 < B) (l m : List Nat) (hl : dok B l) (_hm : dok B m) (n1 : nmz m) (h : l.length < m.length) : dv B l < dv B m := by
  have h1 := dv_lt (by omega) l hl
  have h2 := nmz_low (by omega : 0 < B) m n1 (by omega)
  have h3 : B ^ l.length ≤ B ^ (m.length - 1) := Nat.pow_le_pow_right (by omega) (by omega)
  omega
theorem nmz_inj {B : Nat} (hB : 1 < B) (l m : List Nat) (hl : dok B l) (hm : dok B m) (n1 : nmz l) (n2 : nmz m) (hv : dv B l = dv B m) : l = m := by
  refine dv_inj (by omega) l m ?_ hl hm hv
  rcases Nat.lt_trichotomy l.length m.length with h | h | h
  · have := nmz_len hB l m hl hm n2 h; omega
  · exact h
  · have := nmz_len hB m l hm hl n1 h; omega
theorem nmz_zero {B : Nat} (hB : 1 < B) (l : List Nat) (n1 : nmz l) : dv B l = 0 ↔ l = [] := by
  constructor
  · intro h
    cases l with
    | nil => rfl
    | cons d l =>
      have := nmz_low (by omega : 0 < B) (d :: l) n1 (by simp)
      have h2 : 0 < B ^ ((d :: l).length - 1) := Nat.pow_pos (by omega)
      omega
  · intro h; subst h; rfl
/-- What is left of a list without the zeros at its end. -/
theorem trim_dv (B : Nat) (l : List Nat) (k : Nat) (hk : k ≤ l.length) (hz : ∀ j d, k ≤ j → l[j]? = some d → d = 0) : dv B (l.take k) = dv B l := by
  have h2 : l.drop k = List.replicate (l.length - k) 0 := by
    apply List.ext_getElem?
    intro i
    rw [List.getElem?_drop, List.getElem?_replicate]
    split
    · rename_i h
      have hg : l[k + i]? = some l[k + i] := List.getElem?_eq_getElem (by omega)
      rw [hg, hz _ _ (by omega) hg]
    · rw [List.getElem?_eq_none_iff.2 (by omega)]
  rw [dv_split B l k, h2, dv_zeros, Nat.mul_zero, Nat.add_zero]
theorem trim_nmz (l : List Nat) (k : Nat) (hk : k ≤ l.length) (h : ∀ d, 0 < k → l[k - 1]? = some d → d ≠ 0) : nmz (l.take k) := by
  intro d hd
  rw [List.length_take, Nat.min_eq_left hk, List.getElem?_take] at hd
  split at hd
  · exact h d (by omega) hd
  · cases hd
theorem dv_set {B : Nat} : ∀ (l : List Nat) (i d old : Nat), l[i]? = some old → dv B (l.set i d) + B ^ i * old = dv B l + B ^ i * d
  | [], _, _, _, h => by simp at h
  | x :: l, 0, d, old, h => by
    obtain rfl : x = old := by simpa using h
    simp only [List.set_cons_zero, dv, Nat.pow_zero, Nat.one_mul]
    omega
  | x :: l, i + 1, d, old, h => by
    have ih := dv_set (B := B) l i d old (by simpa using h)
    simp only [List.set_cons_succ, dv, Nat.pow_succ]
    rw [Nat.mul_comm (B ^ i) B, Nat.mul_assoc, Nat.mul_assoc]
    have := congrArg (B * ·) ih
    simp only [Nat.mul_add] at this
    omega
theorem dv_take_getD (B : Nat) (l : List Nat) (i : Nat) : dv B (l.take (i + 1)) = dv B (l.take i) + B ^ i * l.getD i 0 := by
  by_cases h : i < l.length
  · have hg : l[i]? = some l[i] := List.getElem?_eq_getElem h
    rw [dv_take_succ B l i _ hg]
    simp [List.getD, hg]
  · rw [List.take_of_length_le (by omega), List.take_of_length_le (by omega)]
    simp [List.getD, List.getElem?_eq_none_iff.2 (by omega : l.length ≤ i)]
theorem take_set_le (r : List Nat) (i s k : Nat) (h : k ≤ i) : (r.set i s).take k = r.take k := by
  apply List.ext_getElem?
  intro j
  rw [List.getElem?_take, List.getElem?_take]
  split
  · rw [List.getElem?_set_ne (by omega)]
  · rfl
theorem set_step (B : Nat) (r : List Nat) (i s : Nat) (hi : i < r.length) : dv B ((r.set i s).take (i + 1)) = dv B (r.take i) + B ^ i * s := by
  rw [dv_take_succ B (r.set i s) i s (by rw [List.getElem?_set_self hi]), take_set_le r i s i (Nat.le_refl _)]
theorem getD_lt {B : Nat} (hB : 0 < B) {l : List Nat} (h : dok B l) (i : Nat) : l.getD i 0 < B := by
  by_cases hi : i < l.length
  · simp only [List.getD, List.getElem?_eq_getElem hi, Option.getD_some]
    exact h _ (List.getElem_mem hi)
  · simp only [List.getD, List.getElem?_eq_none_iff.2 (by omega : l.length ≤ i), Option.getD_none]
    exact hB
/-- One step of a sum with a carry. -/
theorem carry_step (B P r c x y t : Nat) (ht : t = c + y) (h : r + P * c = x) : r + P * (t % B) + P * B * (t / B) = x + P * y := by
  have h1 : t % B + B * (t / B) = t := Nat.mod_add_div t B
  have h2 : P * (t % B) + P * B * (t / B) = P * t := by rw [Nat.mul_assoc, ← Nat.mul_add, h1]
  rw [Nat.add_assoc, h2, ht, Nat.mul_add]
  omega
/-- One step of a difference with a borrow. -/
theorem borrow_step (B P r b a s bi ai c c' : Nat) (hs : s + bi + c = ai + B * c') (h : r + b = a + P * c) : (r + P * s) + (b + P * bi) = (a + P * ai) + P * B * c' := by
  have h1 := congrArg (P * ·) hs
  simp only [Nat.mul_add, ← Nat.mul_assoc] at h1
  omega
/-- The order of two lists without zeros at their ends. -/
theorem cmp_top {B : Nat} (hB : 0 < B) (a b : List Nat) (i x y : Nat) (ha : dok B a) (_hb : dok B b) (hx : a[i]? = some x) (hy : b[i]? = some y) (he : a.drop (i + 1) = b.drop (i + 1)) (h : x < y) : dv B a < dv B b := by
  have hi := (List.getElem?_eq_some_iff.1 hx).1
  have hj := (List.getElem?_eq_some_iff.1 hy).1
  have h1 := dv_split B a i
  have h2 := dv_split B b i
  rw [dv_drop_cons B a i x hx, Nat.min_eq_left (by omega)] at h1
  rw [dv_drop_cons B b i y hy, Nat.min_eq_left (by omega), ← he] at h2
  have h3 := dv_lt hB (a.take i) (dok_take ha i)
  rw [List.length_take, Nat.min_eq_left (by omega)] at h3
  have h4 : B ^ i * (x + 1 + B * dv B (a.drop (i + 1))) ≤ B ^ i * (y + B * dv B (a.drop (i + 1))) := Nat.mul_le_mul_left _ (by omega)
  rw [h1, h2]
  have h5 : B ^ i * (x + 1 + B * dv B (a.drop (i + 1))) = B ^ i * (x + B * dv B (a.drop (i + 1))) + B ^ i := by
    rw [show x + 1 + B * dv B (a.drop (i + 1)) = (x + B * dv B (a.drop (i + 1))) + 1 by omega, Nat.mul_add, Nat.mul_one]
  omega
theorem add_round {B : Nat} (R D E : List Nat) (i c d e : Nat) (hi : i < R.length) (hd : D.getD i 0 = d) (he : E.getD i 0 = e) (h : dv B (R.take i) + B ^ i * c = dv B (D.take i) + dv B (E.take i)) :
    dv B ((R.set i ((c + d + e) % B)).take (i + 1)) + B ^ (i + 1) * ((c + d + e) / B) = dv B (D.take (i + 1)) + dv B (E.take (i + 1)) := by
  rw [set_step B R i _ hi, dv_take_getD, dv_take_getD, hd, he, Nat.pow_succ]
  have := carry_step B (B ^ i) (dv B (R.take i)) c _ (d + e) (c + d + e) (by omega) h
  rw [this, Nat.mul_add]
  omega
theorem add_done {B : Nat} (R D E : List Nat) (n c : Nat) (hR : R.length = n + 1) (hD : D.length = n) (hE : E.length ≤ n) (h : dv B (R.take n) + B ^ n * c = dv B (D.take n) + dv B (E.take n)) : dv B (R.set n c) = dv B D + dv B E := by
  have h1 := set_step B R n c (by omega)
  rw [List.take_of_length_le (by rw [List.length_set]; omega)] at h1
  rw [List.take_of_length_le (by omega : D.length ≤ n), List.take_of_length_le hE] at h
  omega
theorem sub_round {B : Nat} (R D E : List Nat) (i c d e s c' : Nat) (hi : i < R.length) (hd : D.getD i 0 = d) (he : E.getD i 0 = e) (hs : s + e + c = d + B * c') (h : dv B (R.take i) + dv B (E.take i) = dv B (D.take i) + B ^ i * c) :
    dv B ((R.set i s).take (i + 1)) + dv B (E.take (i + 1)) = dv B (D.take (i + 1)) + B ^ (i + 1) * c' := by
  rw [set_step B R i _ hi, dv_take_getD, dv_take_getD, hd, he, Nat.pow_succ]
  have := borrow_step B (B ^ i) (dv B (R.take i)) (dv B (E.take i)) (dv B (D.take i)) s e d c c' hs h
  omega
end

section
theorem grown_set (w : World) (g i : Nat) (u : Value) : w.grownBy (w.setCell ⟨g, i, none⟩ u) (some g) := ⟨rfl, rfl, rfl, by simp [World.setCell], fun k _ hk => Below.heap_setCell w _ u k (fun e => hk (by rw [e]))⟩
theorem grown_row (w : World) (g : Nat) (cs : Array Value) : w.grownBy (w.setRow g cs) (some g) := ⟨rfl, rfl, rfl, by simp, fun k _ hk => setRow_other w g k _ (fun e => hk (by rw [e]))⟩
theorem Blk.setRow {w : World} {g : Nat} {t : TypeId} {cs ds : Array Value} (h : Blk w g t cs) : Blk (w.setRow g ds) g t ds := setRow_heap w g cs ds t _ h
theorem results_c1 {fn : Func} {p : Tmp} {ty : TypeId} (h : fn.results = #[.cell p ty]) (tmps : Array Value) (P : Program) (w : World) (g : Nat) (X : Value)
    (hp : tmps.getD p undef = .pointer (some ⟨g, 0, none⟩)) (h1 : (loadVar ty ⟨g, 0, none⟩).run P w = .ok X w) : (results fn tmps).run P w = .ok X w := by
  have hp' : tmps[p]?.getD undef = .pointer (some ⟨g, 0, none⟩) := by simpa using hp
  simp [results, h, hp', asAddr, h1]
theorem load24 {w : World} {g : Nat} {cs : Array Value} (h : Blk w g 37 cs) (hs : cs.size = 2) : (loadVar 37 ⟨g, 0, none⟩).run Try.prog w = .ok (.agg cs) w :=
  run_loadVar_row w g 37 37 cs (0, 0) _ h Try.underlying37 rfl (by rw [hs]; kernel_rfl)
theorem store_step {W : World} {g : Nat} {T : TypeId} {cs : Array Value} (h : Blk W g T cs) (j : Nat) (v : Value) : Blk (W.setCell ⟨g, j, none⟩ v) g T (cs.setIfInBounds j v) ∧ (∀ g' T' cs', g' ≠ g → Blk W g' T' cs' → Blk (W.setCell ⟨g, j, none⟩ v) g' T' cs') ∧ (∀ B w0, Below B w0 W → B ≤ g → Below B w0 (W.setCell ⟨g, j, none⟩ v)) := by
  have gs := grown_set W g j v
  exact ⟨Joins.block_setCell h _, fun g' T' cs' hne hb => (gs.block _ hb.lt (by simp; omega)).trans hb, fun B w0 hb hg => hb.grown gs (Nat.le_trans hg (Nat.le_of_lt h.lt)) (fun j hj => by injection hj with hj; omega)⟩
/-- Digits of 32 bits as cells, and numbers as cells. -/
def dc (D : List Nat) : Array Value := (D.map fun (d : Nat) => Value.int .u32 (d : Int)).toArray
def hc (D : List Nat) : Array Value := (D.map fun (d : Nat) => Value.int .i64 (d : Int)).toArray
theorem dc_get {D : List Nat} {i d : Nat} (h : D[i]? = some d) : (dc D)[i]? = some (.int .u32 (d : Int)) := by simp [dc, h]
theorem hc_get {D : List Nat} {i d : Nat} (h : D[i]? = some d) : (hc D)[i]? = some (.int .i64 (d : Int)) := by simp [hc, h]
theorem dc_set (D : List Nat) (i d : Nat) : (dc D).setIfInBounds i (.int .u32 (d : Int)) = dc (D.set i d) := by simp [dc, List.map_set]
theorem hc_set (D : List Nat) (i d : Nat) : (hc D).setIfInBounds i (.int .i64 (d : Int)) = hc (D.set i d) := by simp [hc, List.map_set]
theorem make32 (n : Nat) (hn : n ≤ 1000000) (w : World) : (Instr.makeSlice 35 (.int .i64 (n : Int)) (.int .i64 (n : Int))).run Try.prog w = .ok (.slice (some ⟨w.heap.size, 0, none⟩) n n) (w.alloc (.cells (dc (List.replicate n 0)) 86)) := by
  obtain ⟨i, hi, hz, hs, hb⟩ := info_parts (show (Try.prog.info? 86).map (fun i => (i.zero, i.size, i.bytes)) = some (some (.int .u32 0), 1, 4) by kernel_rfl)
  have := run_make (P := Try.prog) w 35 86 i _ Try.underlying35 hi hz .i64 .i64 (n : Int) (n : Int) (by omega) (Int.le_refl _) (by rw [hb]; omega) (by omega)
  rw [hs] at this
  rw [Int.toNat_natCast] at this
  have e : madeCells (Value.int .u32 0).cells (n * 1) = dc (List.replicate n 0) := by
    apply Array.ext
    · simp [dc, madeCells]
    · intro j h1 h2
      simp [dc, madeCells, Value.cells, Nat.mod_one]
  rw [this, e]
/-- A slice of digits that can be read. -/
def DG (w : World) (A : Option Addr) (n : Nat) (D : List Nat) : Prop := D.length = n ∧ dok 4294967296 D ∧ (0 < n → ∃ b off, A = some ⟨b, off, none⟩ ∧ b < w.heap.size ∧ ∀ (j d : Nat), D[j]? = some d → w.cell? ⟨b, off + j, none⟩ = some (.int .u32 (d : Int)))
/-- A slice of digits in a block of its own, made at or behind a given place. -/
def Own (w : World) (base : Nat) (A : Option Addr) (n : Nat) (D : List Nat) : Prop := D.length = n ∧ dok 4294967296 D ∧ (0 < n → ∃ g off cs, A = some ⟨g, off, none⟩ ∧ base ≤ g ∧ Blk w g 86 cs ∧ ∀ (j d : Nat), D[j]? = some d → cs[off + j]? = some (.int .u32 (d : Int)))
theorem DG.below {w w' : World} {A : Option Addr} {n : Nat} {D : List Nat} (h : DG w A n D) (hb : Below w.heap.size w w') : DG w' A n D :=
  ⟨h.1, h.2.1, fun hn => let ⟨b, off, e, hl, hc⟩ := h.2.2 hn; ⟨b, off, e, Nat.lt_of_lt_of_le hl hb.size, fun j d hd => keepcell hb (hc j d hd)⟩⟩
theorem Own.below {w w' : World} {base : Nat} {A : Option Addr} {n : Nat} {D : List Nat} (h : Own w base A n D) (hb : Below w.heap.size w w') : Own w' base A n D :=
  ⟨h.1, h.2.1, fun hn => let ⟨g, off, cs, e, hg, hk, hc⟩ := h.2.2 hn; ⟨g, off, cs, e, hg, hk.below hb, hc⟩⟩
theorem Own.dg {w : World} {base : Nat} {A : Option Addr} {n : Nat} {D : List Nat} (h : Own w base A n D) : DG w A n D :=
  ⟨h.1, h.2.1, fun hn => let ⟨g, off, _cs, e, _, hk, hc⟩ := h.2.2 hn; ⟨g, off, e, hk.lt, fun j d hd => (hk.cell _).trans (hc j d hd)⟩⟩
theorem Own.mono {w : World} {base b2 : Nat} {A : Option Addr} {n : Nat} {D : List Nat} (h : Own w base A n D) (hb : b2 ≤ base) : Own w b2 A n D :=
  ⟨h.1, h.2.1, fun hn => let ⟨g, off, cs, e, hg, hk, hc⟩ := h.2.2 hn; ⟨g, off, cs, e, Nat.le_trans hb hg, hk, hc⟩⟩
theorem Own.of_blk {w : World} {base g : Nat} {D : List Nat} (h : Blk w g 86 (dc D)) (hg : base ≤ g) (hd : dok 4294967296 D) : Own w base (some ⟨g, 0, none⟩) D.length D :=
  ⟨rfl, hd, fun _ => ⟨g, 0, _, rfl, hg, h, fun j d hj => by rw [Nat.zero_add]; exact dc_get hj⟩⟩
theorem Own.take {w : World} {base : Nat} {A : Option Addr} {n k : Nat} {D : List Nat} (h : Own w base A n D) (hk : k ≤ n) : Own w base A k (D.take k) :=
  ⟨by rw [List.length_take, h.1]; omega, dok_take h.2.1 k, fun hn => let ⟨g, off, cs, e, hg, hb, hc⟩ := h.2.2 (by omega); ⟨g, off, cs, e, hg, hb, fun j d hj => hc j d (by
    rw [List.getElem?_take] at hj
    split at hj
    · exact hj
    · cases hj)⟩⟩
theorem DG.take {w : World} {A : Option Addr} {n k : Nat} {D : List Nat} (h : DG w A n D) (hk : k ≤ n) : DG w A k (D.take k) :=
  ⟨by rw [List.length_take, h.1]; omega, dok_take h.2.1 k, fun hn => let ⟨b, off, e, hl, hc⟩ := h.2.2 (by omega); ⟨b, off, e, hl, fun j d hj => hc j d (by
    rw [List.getElem?_take] at hj
    split at hj
    · exact hj
    · cases hj)⟩⟩
theorem DG.empty (w : World) (A : Option Addr) : DG w A 0 [] := ⟨rfl, dok_nil _, fun h => absurd h (Nat.lt_irrefl 0)⟩
theorem Own.empty (w : World) (base : Nat) (A : Option Addr) : Own w base A 0 [] := ⟨rfl, dok_nil _, fun h => absurd h (Nat.lt_irrefl 0)⟩
/-- The cells of a slice of digits, as long as nothing that lay there has been touched. -/
theorem DG.at {w : World} {A : Option Addr} {n : Nat} {D : List Nat} (h : DG w A n D) (hn : 0 < n) : ∃ b off, A = some ⟨b, off, none⟩ ∧ b < w.heap.size ∧ ∀ (W : World), Below w.heap.size w W → ∀ (j d : Nat), D[j]? = some d → W.cell? ⟨b, off + j, none⟩ = some (.int .u32 (d : Int)) := by
  obtain ⟨b, off, e, hl, hc⟩ := h.2.2 hn
  exact ⟨b, off, e, hl, fun W hW j d hd => keepcell hW (hc j d hd)⟩
end

section
/-- A slice's length, capacity and address go together. -/
def Sl (A : Option Addr) (n c : Nat) : Prop := n ≤ c ∧ c ≤ 9223372036854775807 ∧ (A = none → c = 0) ∧ (∀ a, A = some a → 0 < c → a.spot = none)
theorem Sl.take {A : Option Addr} {n c k : Nat} (h : Sl A n c) (hk : k ≤ n) : Sl A k c := ⟨Nat.le_trans hk h.1, h.2.1, h.2.2.1, h.2.2.2⟩
theorem Sl.nil : Sl none 0 0 := ⟨Nat.le_refl _, by decide, (fun _ => rfl), (fun _ h => by cases h)⟩
theorem Sl.own {g off n c : Nat} (h : n ≤ c) (h2 : c ≤ 9223372036854775807) : Sl (some ⟨g, off, none⟩) n c := ⟨h, h2, (fun h => by cases h), (fun a h _ => by cases h; rfl)⟩
/-- k is the length of what remains of a list without the zeros at its end. -/
def TrimTo (D : List Nat) (k : Nat) : Prop := k ≤ D.length ∧ (∀ j d, k ≤ j → D[j]? = some d → d = 0) ∧ (∀ d, 0 < k → D[k - 1]? = some d → d ≠ 0)
theorem TrimTo.dv {D : List Nat} {k : Nat} (h : TrimTo D k) (B : Nat) : dv B (D.take k) = dv B D := trim_dv B D k h.1 h.2.1
theorem TrimTo.nmz {D : List Nat} {k : Nat} (h : TrimTo D k) : nmz (D.take k) := trim_nmz D k h.1 h.2.2
set_option maxRecDepth 100000 in
set_option maxHeartbeats 2000000 in
theorem trim_any (A : Option Addr) (n c : Nat) (D : List Nat) (w : World) (h : DG w A n D) (hs : Sl A n c) : Calls Try.prog 76 #[.slice A n c] w fun e w' => ∃ k, e = .returned (.slice A k c) ∧ TrimTo D k ∧ w' = w := by
  have HA := Lib.hid h.at
  have HL := Lib.hid h.1
  have HD := Lib.hid h.2.1
  have HS := Lib.hid hs
  obtain ⟨hnc, hc, _, _⟩ := hs
  go_enter Try.func76, Try.ntmps76
  go_wp2
  go_loopw [3] (fun s3 wr => ∃ k : Nat, s3 = .int .i64 (k : Int) ∧ k ≤ n ∧ wr = w ∧ (∀ (j d : Nat), k ≤ j → D[j]? = some d → d = 0)) (fun s3 _ => (intOf s3).toNat)
  case atStart => exact ⟨n, rfl, Nat.le_refl _, rfl, fun j d hj hd => by have := (List.getElem?_eq_some_iff.1 hd).1; have := HL.out; omega⟩
  case round =>
    obtain ⟨k, rfl, hkn, rfl, hz⟩ := hrel
    have HZ := Lib.hid hz
    clear hz
    by_cases h0 : k = 0
    · subst h0
      go_wp2
      go_ret
      exact ⟨0, by first | rfl | trivial, ⟨Nat.zero_le _, HZ.out, fun d h => by omega⟩, rfl⟩
    · obtain ⟨j, hj⟩ : ∃ j : Nat, k = j + 1 := ⟨k - 1, by omega⟩
      have hij : (k : Int) - 1 = (j : Int) := by omega
      have hgt : (k : Int) > 0 := by omega
      have hjn : (j : Int) < n := by omega
      obtain ⟨b, off, rfl, hbl, hcell⟩ := HA.out (by omega)
      obtain ⟨d, hd⟩ : ∃ d, D[j]? = some d := ⟨_, List.getElem?_eq_getElem (by have := HL.out; omega)⟩
      have c0 := hcell wr (Below.refl _ _) j d hd
      have HDd := Lib.hid hd
      have HJ := Lib.hid hj
      clear hcell hd hj
      by_cases hd0 : d = 0
      · subst hd0
        go_wp2
        go_roundw
        case rel => exact ⟨j, by go_num, by have := HJ.out; omega, by first | rfl | trivial, fun i d hi hd => by
          by_cases e : i = j
          · subst e; rw [HDd.out] at hd; cases hd; rfl
          · exact HZ.out i d (by have := HJ.out; omega) hd⟩
        case measure => simp only [intOf]; have := HJ.out; omega
      · have e0 : ((d : Int) == 0) = false := by simp; omega
        go_wp2
        go_ret
        exact ⟨k, by first | rfl | trivial, ⟨by have := HL.out; omega, HZ.out, fun x _ hx => by rw [HJ.out] at hx; simp only [Nat.add_sub_cancel] at hx; rw [HDd.out] at hx; cases hx; exact hd0⟩, by first | rfl | trivial⟩
end

section
/-- A normal integer in a value: its sign, its digits and where they lie. -/
def NB (w : World) (base : Nat) (v : Value) (z : Int) (N : Nat) : Prop := ∃ A n c D, v = .agg #[.bool (decide (z < 0)), .slice A n c] ∧ Own w base A n D ∧ Sl A n c ∧ nmz D ∧ dv 4294967296 D = z.natAbs ∧ n ≤ N
theorem Own.row {w : World} {base g : Nat} {A : Option Addr} {n : Nat} {D : List Nat} {cs : Array Value} (h : Own w base A n D) (hk : Blk w g 37 cs) (ds : Array Value) : Own (w.setRow g ds) base A n D :=
  ⟨h.1, h.2.1, fun hn => by
    obtain ⟨g2, off, cs2, e, hg, hb, hc⟩ := h.2.2 hn
    refine ⟨g2, off, cs2, e, hg, ((grown_row w g ds).block _ hb.lt ?_).trans hb, hc⟩
    intro e
    injection e with e
    subst e
    have := hb.symm.trans hk
    injection this with this
    injection this with _ e2
    exact absurd e2 (by decide)⟩
theorem NB.row {w : World} {base g N : Nat} {v : Value} {z : Int} {cs : Array Value} (h : NB w base v z N) (hk : Blk w g 37 cs) (ds : Array Value) : NB (w.setRow g ds) base v z N :=
  let ⟨A, n, c, D, e, ho, hs, hn, hv, hN⟩ := h; ⟨A, n, c, D, e, ho.row hk ds, hs, hn, hv, hN⟩
theorem NB.below {w w' : World} {base N : Nat} {v : Value} {z : Int} (h : NB w base v z N) (hb : Below w.heap.size w w') : NB w' base v z N :=
  let ⟨A, n, c, D, e, ho, hs, hn, hv, hN⟩ := h; ⟨A, n, c, D, e, ho.below hb, hs, hn, hv, hN⟩
theorem NB.mono {w : World} {base b2 N N2 : Nat} {v : Value} {z : Int} (h : NB w base v z N) (hb : b2 ≤ base) (hN2 : N ≤ N2) : NB w b2 v z N2 :=
  let ⟨A, n, c, D, e, ho, hs, hn, hv, hN⟩ := h; ⟨A, n, c, D, e, ho.mono hb, hs, hn, hv, Nat.le_trans hN hN2⟩
def sgn (neg : Bool) (m : Nat) : Int := if neg = true then -(m : Int) else (m : Int)
/-- An integer in a value: any representation that can be read. -/
def BG (w : World) (v : Value) (z : Int) (N : Nat) : Prop := ∃ neg A n c D, v = .agg #[.bool neg, .slice A n c] ∧ DG w A n D ∧ Sl A n c ∧ n ≤ N ∧ z = sgn neg (dv 4294967296 D)
theorem BG.below {w w' : World} {N : Nat} {v : Value} {z : Int} (h : BG w v z N) (hb : Below w.heap.size w w') : BG w' v z N :=
  let ⟨neg, A, n, c, D, e, ho, hs, hn, hz⟩ := h; ⟨neg, A, n, c, D, e, ho.below hb, hs, hn, hz⟩
theorem sgn_abs (neg : Bool) (m : Nat) : (sgn neg m).natAbs = m := by cases neg <;> simp [sgn]
theorem sgn_neg {neg : Bool} {m : Nat} (h : m ≠ 0) : decide (sgn neg m < 0) = neg := by cases neg <;> simp [sgn] <;> omega
theorem sgn_zero (neg : Bool) : sgn neg 0 = 0 := by cases neg <;> rfl
theorem NB.bg {w : World} {base N : Nat} {v : Value} {z : Int} (h : NB w base v z N) : BG w v z N := by
  obtain ⟨A, n, c, D, e, ho, hs, hn, hv, hN⟩ := h
  refine ⟨_, A, n, c, D, e, ho.dg, hs, hN, ?_⟩
  rw [hv]
  unfold sgn
  by_cases h : z < 0
  · rw [decide_eq_true h, if_pos rfl]; omega
  · rw [decide_eq_false h, if_neg (by decide)]; omega
set_option maxRecDepth 100000 in
set_option maxHeartbeats 4000000 in
theorem signed_any (neg : Bool) (A : Option Addr) (n c : Nat) (D : List Nat) (base : Nat) (w : World) (h : Own w base A n D) (hs : Sl A n c) :
    Calls Try.prog 70 #[.bool neg, .slice A n c] w fun e w' => ∃ v, e = .returned v ∧ NB w' base v (sgn neg (dv 4294967296 D)) n ∧ Below w.heap.size w w' := by
  have HO := Lib.hid h
  have HS := Lib.hid hs
  obtain ⟨W0, hW0⟩ : ∃ W, W = w.alloc (.cells #[.bool false, .slice none 0 0] 37) := ⟨_, rfl⟩
  have HB := Lib.hid (show Below w.heap.size w W0 by rw [hW0]; exact (Below.refl _ w).alloc (Nat.le_refl _) _)
  have HK := Lib.hid (show Blk W0 w.heap.size 37 #[.bool false, .slice none 0 0] by rw [hW0]; exact Blk.new _ _ _)
  have CT := Lib.hid (trim_any A n c D W0 (h.dg.below HB.out) hs)
  clear h hs
  go_enter Try.func70, Try.ntmps70
  go_wp2_with fail
  rw [← hW0]
  clear hW0
  refine CT.out.mono ?_
  rintro e w1 ⟨k, rfl, ht, rfl⟩
  have HT := Lib.hid ht
  have HOk := Lib.hid ((HO.out.below HB.out).take (show k ≤ n by have := ht.1; rw [HO.out.1] at this; exact this))
  have HSk := Lib.hid (HS.out.take (show k ≤ n by have := ht.1; rw [HO.out.1] at this; exact this))
  clear ht
  by_cases h0 : k = 0
  · subst h0
    have hd0 : dv 4294967296 D = 0 := by rw [← HT.out.dv]; rfl
    go_wp2_with ((refine wpList_store_row (o := ⟨none, _, _, _, _, _⟩) rfl 37 _ _ rfl (w.heap.size) #[.bool false, .slice none 0 0] rfl rfl 37 _ HK.out (by kernel_rfl) rfl (by simp [Value.oneCell']) ?_))
    have gr := grown_row w1 w.heap.size #[.bool false, .slice none 0 0]
    refine bodyPost_ret (results_c1 rfl _ _ _ (w.heap.size) _ rfl (load24 (HK.out.setRow (ds := #[.bool false, .slice none 0 0])) rfl)) rfl ?_
    exact ⟨_, rfl, ⟨none, 0, 0, [], by rw [hd0, sgn_zero]; rfl, Own.empty _ _ _, Sl.nil, nmz_nil, by rw [hd0, sgn_zero]; rfl, Nat.zero_le _⟩, HB.out.grown gr HB.out.size (fun j hj => by first | (injection hj with hj; omega) | omega | (cases hj; exact Nat.le_refl _))⟩
  · have hk0 : ((k : Int) == 0) = false := by simp; omega
    have hnz : dv 4294967296 D ≠ 0 := by
      have h1 := nmz_zero (B := 4294967296) (by decide) (D.take k) HT.out.nmz
      rw [HT.out.dv] at h1
      intro e
      have := congrArg List.length (h1.1 e)
      rw [HOk.out.1] at this
      simp at this
      omega
    have HKB := Lib.hid (show ∀ (ds : Array Value) (g : Nat) (cs : Array Value), Blk w1 g 86 cs → Blk (w1.setRow w.heap.size ds) g 86 cs from fun ds g cs hb => by
      refine ((grown_row w1 w.heap.size ds).block _ hb.lt ?_).trans hb
      intro e
      injection e with e
      subst e
      have := hb.symm.trans HK.out
      injection this with this
      injection this with _ e2
      exact absurd e2 (by decide))
    go_wp2_with ((refine wpList_store_row (o := ⟨none, _, _, _, _, _⟩) rfl 37 _ _ rfl (w.heap.size) #[.bool neg, .slice A k c] rfl rfl 37 _ HK.out (by kernel_rfl) rfl (by simp [Value.oneCell']) ?_))
    have gr := grown_row w1 w.heap.size #[.bool neg, .slice A k c]
    refine bodyPost_ret (results_c1 rfl _ _ _ (w.heap.size) _ rfl (load24 (HK.out.setRow (ds := #[.bool neg, .slice A k c])) rfl)) rfl ?_
    refine ⟨_, rfl, ⟨A, k, c, D.take k, by rw [sgn_neg hnz], ⟨HOk.out.1, HOk.out.2.1, fun hk => ?_⟩, HSk.out, HT.out.nmz, by rw [HT.out.dv, sgn_abs], by have := HT.out.1; rw [HO.out.1] at this; exact this⟩, HB.out.grown gr HB.out.size (fun j hj => by first | (injection hj with hj; omega) | omega | (cases hj; exact Nat.le_refl _))⟩
    obtain ⟨g, off, cs, e, hg, hb, hc⟩ := HOk.out.2.2 hk
    exact ⟨g, off, cs, e, hg, HKB.out _ _ _ hb, hc⟩
end

section
theorem mul_round {B : Nat} (R R' E : List Nat) (i j c x y o t s c' : Nat) (ho : R'[i + j]? = some o) (hy : E.getD j 0 = y) (ht : t = c + (x * y + o)) (hs : s = t % B) (hc : c' = t / B) (h : dv B R' + B ^ (i + j) * c = dv B R + B ^ i * x * dv B (E.take j)) :
    dv B (R'.set (i + j) s) + B ^ (i + (j + 1)) * c' = dv B R + B ^ i * x * dv B (E.take (j + 1)) := by
  have h1 := dv_set (B := B) R' (i + j) s o ho
  rw [dv_take_getD, hy]
  subst hs hc
  have h2 := Nat.mod_add_div t B
  have h3 : B ^ (i + j) * (t % B) + B ^ (i + (j + 1)) * (t / B) = B ^ (i + j) * t := by
    rw [show i + (j + 1) = (i + j) + 1 by omega, Nat.pow_succ, Nat.mul_assoc, ← Nat.mul_add, h2]
  have h4 : B ^ (i + j) * t = B ^ (i + j) * c + (B ^ (i + j) * (x * y) + B ^ (i + j) * o) := by rw [ht, Nat.mul_add, Nat.mul_add]
  have h5 : B ^ i * x * (dv B (E.take j) + B ^ j * y) = B ^ i * x * dv B (E.take j) + B ^ (i + j) * (x * y) := by
    rw [Nat.mul_add, Nat.pow_add]
    congr 1
    simp only [Nat.mul_assoc, Nat.mul_left_comm, Nat.mul_comm]
  rw [h5]
  omega
set_option maxRecDepth 100000 in
set_option maxHeartbeats 4000000 in
theorem mul_any (A : Option Addr) (n c : Nat) (D : List Nat) (A2 : Option Addr) (m c2 : Nat) (E : List Nat) (w : World) (h : DG w A n D) (h2 : DG w A2 m E) (hn : n ≤ 100000) (hm : m ≤ 100000) :
    Calls Try.prog 80 #[.slice A n c, .slice A2 m c2] w fun e w' => ∃ g R, e = .returned (.slice (some ⟨g, 0, none⟩) R.length R.length) ∧ Blk w' g 86 (dc R) ∧ w.heap.size ≤ g ∧ dok 4294967296 R ∧ dv 4294967296 R = dv 4294967296 D * dv 4294967296 E ∧ R.length = n + m ∧ Below w.heap.size w w' := by
  have HA := Lib.hid h.at
  have HL := Lib.hid h.1
  have HD := Lib.hid h.2.1
  have HA2 := Lib.hid h2.at
  have HL2 := Lib.hid h2.1
  have HD2 := Lib.hid h2.2.1
  clear h h2
  obtain ⟨N, hN⟩ : ∃ N, N = n + m := ⟨_, rfl⟩
  have hnm : (n : Int) + (m : Int) = (N : Int) := by omega
  have hmk := make32 N (by omega) w
  obtain ⟨W0, hW0⟩ : ∃ W, W = w.alloc (.cells (dc (List.replicate N 0)) 86) := ⟨_, rfl⟩
  rw [← hW0] at hmk
  have HB0 := Lib.hid (show Below w.heap.size w W0 by rw [hW0]; exact (Below.refl _ w).alloc (Nat.le_refl _) _)
  have HK0 := Lib.hid (show Blk W0 w.heap.size 86 (dc (List.replicate N 0)) by rw [hW0]; exact Blk.new _ _ _)
  have HN := Lib.hid hN
  rw [← hN]
  clear hW0 hN
  go_enter Try.func80, Try.ntmps80
  go_wp2
  clear hmk hnm
  obtain ⟨g, hg⟩ : ∃ g, w.heap.size = g := ⟨_, rfl⟩
  have HG := Lib.hid (show w.heap.size ≤ g by omega)
  rw [hg] at HK0 ⊢
  clear hg
  go_loopw [19] (fun s19 wr => ∃ (i : Nat) (R : List Nat), s19 = .int .i64 (i : Int) ∧ i ≤ n ∧ R.length = N ∧ dok 4294967296 R ∧ (∀ (k d : Nat), i + m ≤ k → R[k]? = some d → d = 0) ∧ dv 4294967296 R = dv 4294967296 (D.take i) * dv 4294967296 E ∧ Blk wr g 86 (dc R) ∧ Below w.heap.size w wr) (fun s19 _ => n - (intOf s19).toNat)
  case atStart => exact ⟨0, _, rfl, Nat.zero_le _, by simp, dok_rep (by decide) _, fun k d _ hd => by rw [List.getElem?_replicate] at hd; split at hd <;> simp_all, by simp [dv, dv_zeros], HK0.out, HB0.out⟩
  case round =>
    obtain ⟨i, R, rfl, hin, hRl, hRd, hz, hinv, hblk, hb⟩ := hrel
    have HI := Lib.hid hinv
    have HR := Lib.hid hRd
    have HZ := Lib.hid hz
    have HK := Lib.hid hblk
    have HBW := Lib.hid hb
    have HRL := Lib.hid hRl
    clear hinv hRd hz hblk hb hRl HK0 HB0
    by_cases hlt : i < n
    · have hlti : (i : Int) < n := by omega
      obtain ⟨x, hx⟩ : ∃ d, D[i]? = some d := ⟨_, List.getElem?_eq_getElem (by have := HL.out; omega)⟩
      have hxB := dok_at HD.out hx
      obtain ⟨b, off, eA, hbl, hcell⟩ := HA.out (by omega)
      have c0 := hcell wr HBW.out i x hx
      have HDt := Lib.hid (show D.getD i 0 = x by simp [List.getD, hx])
      have hxI : (x : Int) < 4294967296 := by omega
      clear hcell hx
      have HAE := Lib.hid eA
      rw [eA]
      clear eA
      go_wp2
      obtain ⟨wq, hwq⟩ : ∃ v, v = wr := ⟨_, rfl⟩
      rw [← hwq] at HK HBW c0 ⊢
      clear hwq
      go_loopw [8, 26] (fun s8 s26 wr => ∃ (j c : Nat) (R' : List Nat), s8 = .int .u64 (c : Int) ∧ s26 = .int .i64 (j : Int) ∧ j ≤ m ∧ c < 4294967296 ∧ R'.length = N ∧ dok 4294967296 R' ∧ (∀ (k d : Nat), i + m ≤ k → R'[k]? = some d → d = 0) ∧ dv 4294967296 R' + 4294967296 ^ (i + j) * c = dv 4294967296 R + 4294967296 ^ i * x * dv 4294967296 (E.take j) ∧ Blk wr g 86 (dc R') ∧ Below w.heap.size w wr) (fun _ s26 _ => m - (intOf s26).toNat)
      case atStart => exact ⟨0, 0, R, rfl, rfl, Nat.zero_le _, by decide, HRL.out, HR.out, HZ.out, by simp [dv], HK.out, HBW.out⟩
      case round =>
        obtain ⟨j, c, R', rfl, rfl, hjm, hc, hRl', hRd', hz', hinv', hblk', hb'⟩ := hrel
        have HI' := Lib.hid hinv'
        have HR' := Lib.hid hRd'
        have HZ' := Lib.hid hz'
        have HK' := Lib.hid hblk'
        have HB' := Lib.hid hb'
        have HRL' := Lib.hid hRl'
        clear hinv' hRd' hz' hblk' hb' hRl' HK HBW c0
        by_cases hlm : j < m
        · have hlmi : (j : Int) < m := by omega
          obtain ⟨y, hy⟩ : ∃ d, E[j]? = some d := ⟨_, List.getElem?_eq_getElem (by have := HL2.out; omega)⟩
          have hyB := dok_at HD2.out hy
          obtain ⟨b2, off2, eB, hbl2, hcell2⟩ := HA2.out (by omega)
          have c1 := hcell2 wr HB'.out j y hy
          have HEt := Lib.hid (show E.getD j 0 = y by simp [List.getD, hy])
          obtain ⟨k, hk⟩ : ∃ k, k = i + j := ⟨_, rfl⟩
          have hkN : k < N := by have := HN.out; omega
          have hkNi : (k : Int) < N := by omega
          have hijk : (i : Int) + (j : Int) = (k : Int) := by omega
          obtain ⟨o, ho⟩ : ∃ o, R'[k]? = some o := ⟨_, List.getElem?_eq_getElem (by have := HRL'.out; omega)⟩
          have hoB := dok_at HR'.out ho
          have c9 : wr.cell? ⟨g, k, none⟩ = some (.int .u32 (o : Int)) := (HK'.out.cell _).trans (dc_get ho)
          have f9 : wr.frozen? ⟨g, k, none⟩ = false := Joins.unfrozen_of_block HK'.out _
          obtain ⟨p, hp⟩ : ∃ p, p = x * y := ⟨_, rfl⟩
          have hpB : p ≤ 18446744065119617025 := by
            rw [hp]
            exact Nat.le_trans (Nat.mul_le_mul (by omega : x ≤ 4294967295) (by omega : y ≤ 4294967295)) (by decide)
          have hpI : (x : Int) * (y : Int) = (p : Int) := by rw [hp]; simp
          have hpb : (p : Int) ≤ 18446744065119617025 := by omega
          have hcI : (c : Int) ≤ 4294967295 := by omega
          have hoI : (o : Int) ≤ 4294967295 := by omega
          have hyI : (y : Int) < 4294967296 := by omega
          have HP := Lib.hid hp
          have HKk := Lib.hid hk
          have HO := Lib.hid ho
          have hbk : R'.length = N := HRL'.out
          have HNx := Lib.hid (show ∀ (u v : Int), u = (((c + (p + o)) / 4294967296 : Nat) : Int) → v = (((c + (p + o)) % 4294967296 : Nat) : Int) → ∃ (j' c' : Nat) (R'' : List Nat), Value.int .u64 u = .int .u64 (c' : Int) ∧ Value.int .i64 ((j : Int) + 1) = .int .i64 (j' : Int) ∧ j' ≤ m ∧ c' < 4294967296 ∧ R''.length = N ∧ dok 4294967296 R'' ∧ (∀ (k d : Nat), i + m ≤ k → R''[k]? = some d → d = 0) ∧ dv 4294967296 R'' + 4294967296 ^ (i + j') * c' = dv 4294967296 R + 4294967296 ^ i * x * dv 4294967296 (E.take j') ∧ Blk (wr.setCell ⟨g, k, none⟩ (.int .u32 v)) g 86 (dc R'') ∧ Below w.heap.size w (wr.setCell ⟨g, k, none⟩ (.int .u32 v)) from by
            intro u v hu hv
            subst hu hv
            refine ⟨j + 1, (c + (p + o)) / 4294967296, R'.set k ((c + (p + o)) % 4294967296), rfl, by go_num, by omega, by omega, by rw [List.length_set]; exact hbk, dok_set HR'.out _ _ (Nat.mod_lt _ (by decide)), fun q d hq hd => ?_, ?_, ?_, ?_⟩
            · rw [List.getElem?_set_ne (by omega)] at hd
              exact HZ'.out q d hq hd
            · have ho' := HO.out
              rw [HKk.out] at ho' ⊢
              exact mul_round R R' E i j c x y o (c + (p + o)) _ _ ho' HEt.out (by rw [HP.out]) rfl rfl HI'.out
            · rw [← dc_set]; exact (store_step HK'.out k _).1
            · exact (store_step HK'.out k _).2.2 _ _ HB'.out HG.out)
          clear hcell2 hy ho hk hp hbk
          rw [eB]
          clear eB
          go_wp2
          go_roundw
          case rel => exact HNx.out _ _ (by omega) (by omega)
          case measure => simp only [intOf]; rw [show ((j : Int) + 1).toNat = j + 1 by omega]; omega
        · have hlmi : ¬ (j : Int) < m := by omega
          obtain rfl : m = j := by omega
          obtain ⟨k, hk⟩ : ∃ k, k = i + m := ⟨_, rfl⟩
          have hkN : k < N := by have := HN.out; omega
          have hkNi : (k : Int) < N := by omega
          have hijk : (i : Int) + (m : Int) = (k : Int) := by omega
          have hcI : (c : Int) < 4294967296 := by omega
          obtain ⟨o, ho⟩ : ∃ o, R'[k]? = some o := ⟨_, List.getElem?_eq_getElem (by have := HRL'.out; omega)⟩
          have ho0 : o = 0 := HZ'.out k o (by omega) ho
          subst ho0
          have c9 : wr.cell? ⟨g, k, none⟩ = some (.int .u32 ((0 : Nat) : Int)) := (HK'.out.cell _).trans (dc_get ho)
          have f9 : wr.frozen? ⟨g, k, none⟩ = false := Joins.unfrozen_of_block HK'.out _
          have HO := Lib.hid ho
          have HKk := Lib.hid hk
          have HNx := Lib.hid (show ∃ (i' : Nat) (R'' : List Nat), Value.int .i64 ((i : Int) + 1) = .int .i64 (i' : Int) ∧ i' ≤ n ∧ R''.length = N ∧ dok 4294967296 R'' ∧ (∀ (k d : Nat), i' + m ≤ k → R''[k]? = some d → d = 0) ∧ dv 4294967296 R'' = dv 4294967296 (D.take i') * dv 4294967296 E ∧ Blk (wr.setCell ⟨g, k, none⟩ (.int .u32 (c : Int))) g 86 (dc R'') ∧ Below w.heap.size w (wr.setCell ⟨g, k, none⟩ (.int .u32 (c : Int))) from by
            refine ⟨i + 1, R'.set k c, by go_num, by omega, by rw [List.length_set]; exact HRL'.out, dok_set HR'.out _ _ hc, fun q d hq hd => ?_, ?_, ?_, ?_⟩
            · rw [List.getElem?_set_ne (by omega)] at hd
              exact HZ'.out q d (by omega) hd
            · have h1 := dv_set (B := 4294967296) R' k c 0 HO.out
              have h2 := HI'.out
              rw [List.take_of_length_le (show E.length ≤ m by rw [HL2.out]; exact Nat.le_refl _), ← HKk.out, HI.out] at h2
              rw [dv_take_getD, HDt.out, Nat.add_mul]
              omega
            · rw [← dc_set]; exact (store_step HK'.out k _).1
            · exact (store_step HK'.out k _).2.2 _ _ HB'.out HG.out)
          clear ho hk
          go_wp2
          go_roundw
          case rel => exact HNx.out
          case measure => simp only [intOf]; rw [show ((i : Int) + 1).toNat = i + 1 by omega]; omega
    · have hlti : ¬ (i : Int) < n := by omega
      obtain rfl : n = i := by omega
      have HF := Lib.hid (show dv 4294967296 R = dv 4294967296 D * dv 4294967296 E by
        have := HI.out
        rw [List.take_of_length_le (show D.length ≤ n by rw [HL.out]; exact Nat.le_refl _)] at this
        exact this)
      go_wp2
      go_ret
      refine ⟨g, R, ?_, HK.out, HG.out, HR.out, HF.out, HRL.out, HBW.out⟩
      rw [HRL.out]; rfl
end

section
def scmp (a b : Nat) : Int := if a < b then -1 else if b < a then 1 else 0
set_option maxRecDepth 100000 in
set_option maxHeartbeats 4000000 in
theorem compare_any (A : Option Addr) (n c : Nat) (D : List Nat) (A2 : Option Addr) (m c2 : Nat) (E : List Nat) (w : World) (h : DG w A n D) (h2 : DG w A2 m E) (hn : n ≤ 100000) (hnz : n = m ∨ (nmz D ∧ nmz E)) :
    Calls Try.prog 78 #[.slice A n c, .slice A2 m c2] w fun e w' => e = .returned (.int .i64 (scmp (dv 4294967296 D) (dv 4294967296 E))) ∧ Below w.heap.size w w' := by
  have HA := Lib.hid h.at
  have HL := Lib.hid h.1
  have HD := Lib.hid h.2.1
  have HA2 := Lib.hid h2.at
  have HL2 := Lib.hid h2.1
  have HD2 := Lib.hid h2.2.1
  obtain ⟨r, hr⟩ : ∃ r, scmp (dv 4294967296 D) (dv 4294967296 E) = r := ⟨_, rfl⟩
  rw [hr]
  have HR := Lib.hid hr
  clear h h2 hr
  rcases Nat.lt_trichotomy n m with hlt | hlt | hlt
  · have HF := Lib.hid (show -1 = r by
      have hz := hnz.resolve_left (by omega)
      rw [← HR.out]; unfold scmp; rw [if_pos (nmz_len (by decide) D E HD.out HD2.out hz.2 (by rw [HL.out, HL2.out]; exact hlt))])
    have h1 : ((n : Int) == (m : Int)) = false := by simp; omega
    have h1' : ((n : Int) != (m : Int)) = true := by simp; omega
    have hlti : (n : Int) < m := by omega
    go_enter Try.func78, Try.ntmps78
    go_wp2
    go_ret
    exact ⟨ret_int HF.out, Below.refl _ _⟩
  · subst hlt
    go_enter Try.func78, Try.ntmps78
    go_wp2
    go_loopw [5] (fun s5 wr => ∃ (k : Nat) (x : Int), s5 = .int .i64 x ∧ x = (k : Int) - 1 ∧ k ≤ n ∧ D.drop k = E.drop k ∧ Below w.heap.size w wr) (fun s5 _ => (intOf s5 + 1).toNat)
    case atStart => exact ⟨n, _, rfl, rfl, Nat.le_refl _, by rw [List.drop_of_length_le (show D.length ≤ n by rw [HL.out]; exact Nat.le_refl _), List.drop_of_length_le (show E.length ≤ n by rw [HL2.out]; exact Nat.le_refl _)], Below.refl _ _⟩
    case round =>
      obtain ⟨k, x, rfl, hx, hkn, he, hb⟩ := hrel
      have HE := Lib.hid he
      have HB := Lib.hid hb
      clear he hb
      by_cases h0 : k = 0
      · subst h0
        obtain rfl : x = -1 := by omega
        clear hx
        have HF := Lib.hid (show 0 = r by
          have := HE.out
          simp only [List.drop_zero] at this
          rw [← HR.out, this]; unfold scmp; rw [if_neg (by omega), if_neg (by omega)])
        go_wp2
        go_ret
        exact ⟨ret_int HF.out, HB.out⟩
      · obtain ⟨j, rfl⟩ : ∃ j : Nat, k = j + 1 := ⟨k - 1, by omega⟩
        obtain rfl : x = (j : Int) := by omega
        clear hx h0
        have hjn : (j : Int) < n := by omega
        obtain ⟨b, off, rfl, hbl, hc⟩ := HA.out (by omega)
        obtain ⟨b2, off2, rfl, hbl2, hc2⟩ := HA2.out (by omega)
        obtain ⟨d, hd⟩ : ∃ d, D[j]? = some d := ⟨_, List.getElem?_eq_getElem (by have := HL.out; omega)⟩
        obtain ⟨e, hee⟩ : ∃ d, E[j]? = some d := ⟨_, List.getElem?_eq_getElem (by have := HL2.out; omega)⟩
        have c0 := hc wr HB.out j d hd
        have c1 := hc2 wr HB.out j e hee
        have HDd := Lib.hid hd
        have HEe := Lib.hid hee
        clear hc hc2 hd hee
        by_cases hde : d = e
        · subst hde
          have HE2 := Lib.hid (show D.drop j = E.drop j by
            obtain ⟨h1, h2⟩ := List.getElem?_eq_some_iff.1 HDd.out
            obtain ⟨h3, h4⟩ := List.getElem?_eq_some_iff.1 HEe.out
            rw [List.drop_eq_getElem_cons h1, List.drop_eq_getElem_cons h3, h2, h4, HE.out])
          go_wp2
          go_quiet (fail)
          have HBQ := Lib.hid (below_drewN (n := nq) HB.out)
          go_wp2
          go_roundw
          case rel => exact ⟨j, _, by go_num, by go_num, by omega, HE2.out, HBQ.out⟩
          case measure => simp only [intOf]; omega
        · have hne : ((d : Int) == (e : Int)) = false := by simp; omega
          have hne' : ((d : Int) != (e : Int)) = true := by simp; omega
          rcases Nat.lt_or_ge d e with hlt | hge
          · have hlti : (d : Int) < e := by omega
            have HF := Lib.hid (show -1 = r by rw [← HR.out]; unfold scmp; rw [if_pos (cmp_top (by decide) D E j d e HD.out HD2.out HDd.out HEe.out HE.out hlt)])
            clear hde
            go_wp2
            go_quiet (fail)
            have HBQ := Lib.hid (below_drewN (n := nq) HB.out)
            have c0' : (wr.drewN nq).cell? ⟨b, off + j, none⟩ = some (.int .u32 (d : Int)) := c0
            have c1' : (wr.drewN nq).cell? ⟨b2, off2 + j, none⟩ = some (.int .u32 (e : Int)) := c1
            go_wp2
            go_quiet (fail)
            go_wp2
            go_ret
            exact ⟨ret_int HF.out, by have := below_drewN (n := nq) HBQ.out; exact this⟩
          · have hlti : ¬ (d : Int) < e := by omega
            have HF := Lib.hid (show 1 = r by
              have h1 := cmp_top (by decide) E D j e d HD2.out HD.out HEe.out HDd.out HE.out.symm (by omega)
              rw [← HR.out]; unfold scmp; rw [if_neg (by omega), if_pos h1])
            clear hde hge
            go_wp2
            go_quiet (fail)
            have HBQ := Lib.hid (below_drewN (n := nq) HB.out)
            have c0' : (wr.drewN nq).cell? ⟨b, off + j, none⟩ = some (.int .u32 (d : Int)) := c0
            have c1' : (wr.drewN nq).cell? ⟨b2, off2 + j, none⟩ = some (.int .u32 (e : Int)) := c1
            go_wp2
            go_quiet (fail)
            go_wp2
            go_ret
            exact ⟨ret_int HF.out, by have := below_drewN (n := nq) HBQ.out; exact this⟩
  · have HF := Lib.hid (show 1 = r by
      have hz := hnz.resolve_left (by omega)
      have h1 := nmz_len (by decide) E D HD2.out HD.out hz.1 (by rw [HL.out, HL2.out]; exact hlt)
      rw [← HR.out]; unfold scmp; rw [if_neg (by omega), if_pos h1])
    have h1 : ((n : Int) == (m : Int)) = false := by simp; omega
    have h1' : ((n : Int) != (m : Int)) = true := by simp; omega
    have hlti : ¬ (n : Int) < m := by omega
    go_enter Try.func78, Try.ntmps78
    go_wp2
    go_ret
    exact ⟨ret_int HF.out, Below.refl _ _⟩
end

section
def dcl (D : List Nat) : List Value := D.map fun (d : Nat) => Value.int .u32 (d : Int)
theorem dcl_len (D : List Nat) : (dcl D).length = D.length := by simp [dcl]
theorem dcl_get {D : List Nat} {i d : Nat} (h : D[i]? = some d) : (dcl D)[i]? = some (.int .u32 (d : Int)) := by simp [dcl, h]
theorem dcl_set (D : List Nat) (i d : Nat) : (dcl D).set i (.int .u32 (d : Int)) = dcl (D.set i d) := by simp [dcl, List.map_set]
theorem own_set {w : World} {b e n i : Nat} {v : Value} {xs : List Value} (h : w.ownsRow b e 1 v n xs) (hi : i < n) : ∃ g cap, v = .slice (some ⟨g, 0, none⟩) n cap ∧ b ≤ g ∧ w.cell? ⟨g, i, none⟩ = xs[i]? ∧ w.frozen? ⟨g, i, none⟩ = false ∧
    ∀ u, (w.setCell ⟨g, i, none⟩ u).ownsRow b e 1 v n (xs.set i u) ∧ ∀ B w0, Below B w0 w → B ≤ b → Below B w0 (w.setCell ⟨g, i, none⟩ u) := by
  have h0 := h
  rcases h.2 with ⟨_, hl⟩ | ⟨g, cap, cur, rfl, hg, hh, hnc, hcap, hsz, htake⟩
  · omega
  · refine ⟨g, cap, rfl, hg, World.ownsRow.cellAt h0 i (by omega), Joins.unfrozen_of_block hh _, fun u => ⟨⟨by rw [List.length_set]; exact h.1, .inr ⟨g, cap, cur.setIfInBounds i u, rfl, hg, Joins.block_setCell hh _, hnc, hcap, by simpa using hsz, ?_⟩⟩, fun B w0 hB hb => (store_step (show Blk w g e cur from hh) i u).2.2 B w0 hB (by omega)⟩⟩
    rw [← htake]
    simp [List.take_set]
theorem tp_round {B : Nat} (R D : List Nat) (i c x m t : Nat) (hi : i < R.length) (hx : D.getD i 0 = x) (ht : t = c + x * m) {nn : Nat} (h : dv B (R.take i) + B ^ i * c = dv B (D.take i) * m + nn) : dv B ((R.set i (t % B)).take (i + 1)) + B ^ (i + 1) * (t / B) = dv B (D.take (i + 1)) * m + nn := by
  rw [set_step B R i _ hi, dv_take_getD, hx, Nat.pow_succ]
  have := carry_step B (B ^ i) (dv B (R.take i)) c _ (x * m) t ht h
  rw [this, Nat.add_mul, Nat.mul_assoc]
  omega
theorem dcl_one (D : List Nat) : ∀ u ∈ dcl D, u.oneCell' = true := by
  intro u hu
  obtain ⟨x, _, rfl⟩ := List.mem_map.1 hu
  rfl
end

section
set_option maxRecDepth 100000 in
set_option maxHeartbeats 4000000 in
theorem add_any (A : Option Addr) (n c : Nat) (D : List Nat) (A2 : Option Addr) (m c2 : Nat) (E : List Nat) (w : World) (h : DG w A n D) (h2 : DG w A2 m E) (hn : n ≤ 100000) (hm : m ≤ 100000) :
    Calls Try.prog 77 #[.slice A n c, .slice A2 m c2] w fun e w' => ∃ g R, e = .returned (.slice (some ⟨g, 0, none⟩) R.length R.length) ∧ Blk w' g 86 (dc R) ∧ w.heap.size ≤ g ∧ dok 4294967296 R ∧ dv 4294967296 R = dv 4294967296 D + dv 4294967296 E ∧ R.length = max n m + 1 ∧ Below w.heap.size w w' := by
  have HA := Lib.hid h.at
  have HL := Lib.hid h.1
  have HD := Lib.hid h.2.1
  have HA2 := Lib.hid h2.at
  have HL2 := Lib.hid h2.1
  have HD2 := Lib.hid h2.2.1
  clear h h2
  by_cases hlt : n < m
  · have hlti : (n : Int) < m := by omega
    go_enter Try.func77, Try.ntmps77
    have hmk := make32 (m + 1) (by omega) w
    have hcast : ((m + 1 : Nat) : Int) = (m : Int) + 1 := by omega
    rw [hcast] at hmk
    clear hcast
    obtain ⟨W0, hW0⟩ : ∃ W, W = w.alloc (.cells (dc (List.replicate (m + 1) 0)) 86) := ⟨_, rfl⟩
    rw [← hW0] at hmk
    have HB0 := Lib.hid (show Below w.heap.size w W0 by rw [hW0]; exact (Below.refl _ w).alloc (Nat.le_refl _) _)
    have HK0 := Lib.hid (show Blk W0 w.heap.size 86 (dc (List.replicate (m + 1) 0)) by rw [hW0]; exact Blk.new _ _ _)
    clear hW0
    go_wp2
    clear hmk
    obtain ⟨g, hg⟩ : ∃ g, w.heap.size = g := ⟨_, rfl⟩
    have HG := Lib.hid (show w.heap.size ≤ g by omega)
    rw [hg] at HK0 ⊢
    clear hg
    go_loopw [6, 21] (fun s6 s21 wr => ∃ (i c : Nat) (R : List Nat), s6 = .int .u64 (c : Int) ∧ s21 = .int .i64 (i : Int) ∧ i ≤ m ∧ c ≤ 1 ∧ R.length = m + 1 ∧ dok 4294967296 R ∧ dv 4294967296 (R.take i) + 4294967296 ^ i * c = dv 4294967296 (E.take i) + dv 4294967296 (D.take i) ∧ Blk wr g 86 (dc R) ∧ Below w.heap.size w wr) (fun _ s21 _ => m - (intOf s21).toNat)
    case atStart => exact ⟨0, 0, _, rfl, rfl, Nat.zero_le _, by decide, by simp, dok_rep (by decide) _, by simp [dv], HK0.out, HB0.out⟩
    case round =>
      obtain ⟨i, c, R, rfl, rfl, hin, hc, hRl, hRd, hinv, hblk, hb⟩ := hrel
      have HI := Lib.hid hinv
      have HR := Lib.hid hRd
      have HK := Lib.hid hblk
      have HBW := Lib.hid hb
      have HRL := Lib.hid hRl
      clear hinv hRd hblk hb hRl HK0 HB0
      by_cases hlt : i < m
      · have hlti : (i : Int) < m := by omega
        have hltr : (i : Int) < (((m + 1 : Nat)) : Int) := by omega
        obtain ⟨d, hd⟩ : ∃ d, E[i]? = some d := ⟨_, List.getElem?_eq_getElem (by have := HL2.out; omega)⟩
        have hdB := dok_at HD2.out hd
        obtain ⟨b, off, eA, hbl, hcell⟩ := HA2.out (by omega)
        have c0 := hcell wr HBW.out i d hd
        have HDt := Lib.hid (show E.getD i 0 = d by simp [List.getD, hd])
        have hcI : (c : Int) ≤ 1 := by omega
        have hdI : (d : Int) < 4294967296 := by omega
        obtain ⟨o, ho⟩ : ∃ o, R[i]? = some o := ⟨_, List.getElem?_eq_getElem (by have := HRL.out; omega)⟩
        have c9 : wr.cell? ⟨g, i, none⟩ = some (.int .u32 (o : Int)) := (HK.out.cell _).trans (dc_get ho)
        have f9 : wr.frozen? ⟨g, i, none⟩ = false := Joins.unfrozen_of_block HK.out _
        have HN := Lib.hid (fun e (he : D.getD i 0 = e) (heB : e < 4294967296) (x y : Int) (hx : x = (((c + d + e) / 4294967296 : Nat) : Int)) (hy : y = (((c + d + e) % 4294967296 : Nat) : Int)) => show ∃ (i' c' : Nat) (R' : List Nat), Value.int .u64 x = .int .u64 (c' : Int) ∧ Value.int .i64 ((i : Int) + 1) = .int .i64 (i' : Int) ∧ i' ≤ m ∧ c' ≤ 1 ∧ R'.length = m + 1 ∧ dok 4294967296 R' ∧ dv 4294967296 (R'.take i') + 4294967296 ^ i' * c' = dv 4294967296 (E.take i') + dv 4294967296 (D.take i') ∧ Blk (wr.setCell ⟨g, i, none⟩ (.int .u32 y)) g 86 (dc R') ∧ Below w.heap.size w (wr.setCell ⟨g, i, none⟩ (.int .u32 y)) from by
          subst hx hy
          have hrl := HRL.out
          refine ⟨i + 1, (c + d + e) / 4294967296, R.set i ((c + d + e) % 4294967296), rfl, by go_num, by omega, by omega, by rw [List.length_set]; exact hrl, dok_set HR.out _ _ (Nat.mod_lt _ (by decide)), add_round R E D i c d e (by omega) HDt.out he HI.out, ?_, ?_⟩
          · rw [← dc_set]; exact (store_step HK.out i _).1
          · exact (store_step HK.out i _).2.2 _ _ HBW.out HG.out)
        clear hcell hd ho
        rw [eA]
        clear eA
        by_cases hlm : i < n
        · have hlmi : (i : Int) < n := by omega
          obtain ⟨e, he⟩ : ∃ e, D[i]? = some e := ⟨_, List.getElem?_eq_getElem (by have := HL.out; omega)⟩
          have heB := dok_at HD.out he
          obtain ⟨b2, off2, eB, hbl2, hcell2⟩ := HA.out (by omega)
          have c1 := hcell2 wr HBW.out i e he
          have heI : (e : Int) < 4294967296 := by omega
          clear hcell2
          rw [eB]
          clear eB
          have HEt := Lib.hid (show D.getD i 0 = e by simp [List.getD, he])
          clear he
          go_wp2
          go_roundw
          case rel => exact HN.out e HEt.out heB _ _ (by omega) (by omega)
          case measure => simp only [intOf]; rw [show ((i : Int) + 1).toNat = i + 1 by omega]; omega
        · have hlmi : ¬ (i : Int) < n := by omega
          have HEt := Lib.hid (show D.getD i 0 = 0 by simp [List.getD, List.getElem?_eq_none_iff.2 (by have := HL.out; omega : D.length ≤ i)])
          go_wp2
          go_roundw
          case rel => exact HN.out 0 HEt.out (by decide) _ _ (by omega) (by omega)
          case measure => simp only [intOf]; rw [show ((i : Int) + 1).toNat = i + 1 by omega]; omega
      · have hlti : ¬ (i : Int) < m := by omega
        obtain rfl : m = i := by omega
        have hltr : (m : Int) < (((m + 1 : Nat)) : Int) := by omega
        have hcI : (c : Int) ≤ 1 := by omega
        obtain ⟨o, ho⟩ : ∃ o, R[m]? = some o := ⟨_, List.getElem?_eq_getElem (by have := HRL.out; omega)⟩
        have c9 : wr.cell? ⟨g, m, none⟩ = some (.int .u32 (o : Int)) := (HK.out.cell _).trans (dc_get ho)
        have f9 : wr.frozen? ⟨g, m, none⟩ = false := Joins.unfrozen_of_block HK.out _
        have HRL2 := Lib.hid (show (R.set m c).length = m + 1 by rw [List.length_set]; exact HRL.out)
        clear ho
        go_wp2
        go_ret
        refine ⟨g, R.set m c, ?_, ?_, HG.out, dok_set HR.out _ _ (by omega), by have := add_done R E D m c HRL.out HL2.out (by have := HL.out; omega) HI.out; omega, ?_, (store_step HK.out m _).2.2 _ _ HBW.out HG.out⟩
        · rw [HRL2.out]; rfl
        · rw [← dc_set]; exact (store_step HK.out m _).1
        · rw [HRL2.out]; omega
  · have hlti : ¬ (n : Int) < m := by omega
    go_enter Try.func77, Try.ntmps77
    have hmk := make32 (n + 1) (by omega) w
    have hcast : ((n + 1 : Nat) : Int) = (n : Int) + 1 := by omega
    rw [hcast] at hmk
    clear hcast
    obtain ⟨W0, hW0⟩ : ∃ W, W = w.alloc (.cells (dc (List.replicate (n + 1) 0)) 86) := ⟨_, rfl⟩
    rw [← hW0] at hmk
    have HB0 := Lib.hid (show Below w.heap.size w W0 by rw [hW0]; exact (Below.refl _ w).alloc (Nat.le_refl _) _)
    have HK0 := Lib.hid (show Blk W0 w.heap.size 86 (dc (List.replicate (n + 1) 0)) by rw [hW0]; exact Blk.new _ _ _)
    clear hW0
    go_wp2
    clear hmk
    obtain ⟨g, hg⟩ : ∃ g, w.heap.size = g := ⟨_, rfl⟩
    have HG := Lib.hid (show w.heap.size ≤ g by omega)
    rw [hg] at HK0 ⊢
    clear hg
    go_loopw [6, 21] (fun s6 s21 wr => ∃ (i c : Nat) (R : List Nat), s6 = .int .u64 (c : Int) ∧ s21 = .int .i64 (i : Int) ∧ i ≤ n ∧ c ≤ 1 ∧ R.length = n + 1 ∧ dok 4294967296 R ∧ dv 4294967296 (R.take i) + 4294967296 ^ i * c = dv 4294967296 (D.take i) + dv 4294967296 (E.take i) ∧ Blk wr g 86 (dc R) ∧ Below w.heap.size w wr) (fun _ s21 _ => n - (intOf s21).toNat)
    case atStart => exact ⟨0, 0, _, rfl, rfl, Nat.zero_le _, by decide, by simp, dok_rep (by decide) _, by simp [dv], HK0.out, HB0.out⟩
    case round =>
      obtain ⟨i, c, R, rfl, rfl, hin, hc, hRl, hRd, hinv, hblk, hb⟩ := hrel
      have HI := Lib.hid hinv
      have HR := Lib.hid hRd
      have HK := Lib.hid hblk
      have HBW := Lib.hid hb
      have HRL := Lib.hid hRl
      clear hinv hRd hblk hb hRl HK0 HB0
      by_cases hlt : i < n
      · have hlti : (i : Int) < n := by omega
        have hltr : (i : Int) < (((n + 1 : Nat)) : Int) := by omega
        obtain ⟨d, hd⟩ : ∃ d, D[i]? = some d := ⟨_, List.getElem?_eq_getElem (by have := HL.out; omega)⟩
        have hdB := dok_at HD.out hd
        obtain ⟨b, off, eA, hbl, hcell⟩ := HA.out (by omega)
        have c0 := hcell wr HBW.out i d hd
        have HDt := Lib.hid (show D.getD i 0 = d by simp [List.getD, hd])
        have hcI : (c : Int) ≤ 1 := by omega
        have hdI : (d : Int) < 4294967296 := by omega
        obtain ⟨o, ho⟩ : ∃ o, R[i]? = some o := ⟨_, List.getElem?_eq_getElem (by have := HRL.out; omega)⟩
        have c9 : wr.cell? ⟨g, i, none⟩ = some (.int .u32 (o : Int)) := (HK.out.cell _).trans (dc_get ho)
        have f9 : wr.frozen? ⟨g, i, none⟩ = false := Joins.unfrozen_of_block HK.out _
        have HN := Lib.hid (fun e (he : E.getD i 0 = e) (heB : e < 4294967296) (x y : Int) (hx : x = (((c + d + e) / 4294967296 : Nat) : Int)) (hy : y = (((c + d + e) % 4294967296 : Nat) : Int)) => show ∃ (i' c' : Nat) (R' : List Nat), Value.int .u64 x = .int .u64 (c' : Int) ∧ Value.int .i64 ((i : Int) + 1) = .int .i64 (i' : Int) ∧ i' ≤ n ∧ c' ≤ 1 ∧ R'.length = n + 1 ∧ dok 4294967296 R' ∧ dv 4294967296 (R'.take i') + 4294967296 ^ i' * c' = dv 4294967296 (D.take i') + dv 4294967296 (E.take i') ∧ Blk (wr.setCell ⟨g, i, none⟩ (.int .u32 y)) g 86 (dc R') ∧ Below w.heap.size w (wr.setCell ⟨g, i, none⟩ (.int .u32 y)) from by
          subst hx hy
          have hrl := HRL.out
          refine ⟨i + 1, (c + d + e) / 4294967296, R.set i ((c + d + e) % 4294967296), rfl, by go_num, by omega, by omega, by rw [List.length_set]; exact hrl, dok_set HR.out _ _ (Nat.mod_lt _ (by decide)), add_round R D E i c d e (by omega) HDt.out he HI.out, ?_, ?_⟩
          · rw [← dc_set]; exact (store_step HK.out i _).1
          · exact (store_step HK.out i _).2.2 _ _ HBW.out HG.out)
        clear hcell hd ho
        rw [eA]
        clear eA
        by_cases hlm : i < m
        · have hlmi : (i : Int) < m := by omega
          obtain ⟨e, he⟩ : ∃ e, E[i]? = some e := ⟨_, List.getElem?_eq_getElem (by have := HL2.out; omega)⟩
          have heB := dok_at HD2.out he
          obtain ⟨b2, off2, eB, hbl2, hcell2⟩ := HA2.out (by omega)
          have c1 := hcell2 wr HBW.out i e he
          have heI : (e : Int) < 4294967296 := by omega
          clear hcell2
          rw [eB]
          clear eB
          have HEt := Lib.hid (show E.getD i 0 = e by simp [List.getD, he])
          clear he
          go_wp2
          go_roundw
          case rel => exact HN.out e HEt.out heB _ _ (by omega) (by omega)
          case measure => simp only [intOf]; rw [show ((i : Int) + 1).toNat = i + 1 by omega]; omega
        · have hlmi : ¬ (i : Int) < m := by omega
          have HEt := Lib.hid (show E.getD i 0 = 0 by simp [List.getD, List.getElem?_eq_none_iff.2 (by have := HL2.out; omega : E.length ≤ i)])
          go_wp2
          go_roundw
          case rel => exact HN.out 0 HEt.out (by decide) _ _ (by omega) (by omega)
          case measure => simp only [intOf]; rw [show ((i : Int) + 1).toNat = i + 1 by omega]; omega
      · have hlti : ¬ (i : Int) < n := by omega
        obtain rfl : n = i := by omega
        have hltr : (n : Int) < (((n + 1 : Nat)) : Int) := by omega
        have hcI : (c : Int) ≤ 1 := by omega
        obtain ⟨o, ho⟩ : ∃ o, R[n]? = some o := ⟨_, List.getElem?_eq_getElem (by have := HRL.out; omega)⟩
        have c9 : wr.cell? ⟨g, n, none⟩ = some (.int .u32 (o : Int)) := (HK.out.cell _).trans (dc_get ho)
        have f9 : wr.frozen? ⟨g, n, none⟩ = false := Joins.unfrozen_of_block HK.out _
        have HRL2 := Lib.hid (show (R.set n c).length = n + 1 by rw [List.length_set]; exact HRL.out)
        clear ho
        go_wp2
        go_ret
        refine ⟨g, R.set n c, ?_, ?_, HG.out, dok_set HR.out _ _ (by omega), by have := add_done R D E n c HRL.out HL.out (by have := HL2.out; omega) HI.out; omega, ?_, (store_step HK.out n _).2.2 _ _ HBW.out HG.out⟩
        · rw [HRL2.out]; rfl
        · rw [← dc_set]; exact (store_step HK.out n _).1
        · rw [HRL2.out]; omega
end

section
set_option maxRecDepth 100000 in
set_option maxHeartbeats 4000000 in
theorem sub_any (A : Option Addr) (n c : Nat) (D : List Nat) (A2 : Option Addr) (m c2 : Nat) (E : List Nat) (w : World) (h : DG w A n D) (h2 : DG w A2 m E) (hn : n ≤ 100000) (hmn : m ≤ n) (hle : dv 4294967296 E ≤ dv 4294967296 D) :
    Calls Try.prog 79 #[.slice A n c, .slice A2 m c2] w fun e w' => ∃ g R, e = .returned (.slice (some ⟨g, 0, none⟩) R.length R.length) ∧ Blk w' g 86 (dc R) ∧ w.heap.size ≤ g ∧ dok 4294967296 R ∧ dv 4294967296 R + dv 4294967296 E = dv 4294967296 D ∧ R.length = n ∧ Below w.heap.size w w' := by
  have HA := Lib.hid h.at
  have HL := Lib.hid h.1
  have HD := Lib.hid h.2.1
  have HA2 := Lib.hid h2.at
  have HL2 := Lib.hid h2.1
  have HD2 := Lib.hid h2.2.1
  have HLE := Lib.hid hle
  clear h h2 hle
  have hmk := make32 n (by omega) w
  obtain ⟨W0, hW0⟩ : ∃ W, W = w.alloc (.cells (dc (List.replicate n 0)) 86) := ⟨_, rfl⟩
  rw [← hW0] at hmk
  have HB0 := Lib.hid (show Below w.heap.size w W0 by rw [hW0]; exact (Below.refl _ w).alloc (Nat.le_refl _) _)
  have HK0 := Lib.hid (show Blk W0 w.heap.size 86 (dc (List.replicate n 0)) by rw [hW0]; exact Blk.new _ _ _)
  clear hW0
  go_enter Try.func79, Try.ntmps79
  go_wp2
  clear hmk
  obtain ⟨g, hg⟩ : ∃ g, w.heap.size = g := ⟨_, rfl⟩
  have HG := Lib.hid (show w.heap.size ≤ g by omega)
  rw [hg] at HK0 ⊢
  clear hg
  go_loopw [6, 14] (fun s6 s14 wr => ∃ (i c : Nat) (R : List Nat), s6 = .int .u64 (c : Int) ∧ s14 = .int .i64 (i : Int) ∧ i ≤ n ∧ c ≤ 1 ∧ R.length = n ∧ dok 4294967296 R ∧ dv 4294967296 (R.take i) + dv 4294967296 (E.take i) = dv 4294967296 (D.take i) + 4294967296 ^ i * c ∧ Blk wr g 86 (dc R) ∧ Below w.heap.size w wr) (fun _ s14 _ => n - (intOf s14).toNat)
  case atStart => exact ⟨0, 0, _, rfl, rfl, Nat.zero_le _, by decide, by simp, dok_rep (by decide) _, by simp [dv], HK0.out, HB0.out⟩
  case round =>
    obtain ⟨i, c, R, rfl, rfl, hin, hc, hRl, hRd, hinv, hblk, hb⟩ := hrel
    have HI := Lib.hid hinv
    have HR := Lib.hid hRd
    have HK := Lib.hid hblk
    have HBW := Lib.hid hb
    have HRL := Lib.hid hRl
    clear hinv hRd hblk hb hRl HK0 HB0
    by_cases hlt : i < n
    · have hlti : (i : Int) < n := by omega
      obtain ⟨d, hd⟩ : ∃ d, D[i]? = some d := ⟨_, List.getElem?_eq_getElem (by have := HL.out; omega)⟩
      have hdB := dok_at HD.out hd
      obtain ⟨b, off, eA, hbl, hcell⟩ := HA.out (by omega)
      have c0 := hcell wr HBW.out i d hd
      have HDt := Lib.hid (show D.getD i 0 = d by simp [List.getD, hd])
      have hcI : (c : Int) ≤ 1 := by omega
      have hdI : (d : Int) < 4294967296 := by omega
      obtain ⟨o, ho⟩ : ∃ o, R[i]? = some o := ⟨_, List.getElem?_eq_getElem (by have := HRL.out; omega)⟩
      have c9 : wr.cell? ⟨g, i, none⟩ = some (.int .u32 (o : Int)) := (HK.out.cell _).trans (dc_get ho)
      have f9 : wr.frozen? ⟨g, i, none⟩ = false := Joins.unfrozen_of_block HK.out _
      have HN := Lib.hid (fun e (he : E.getD i 0 = e) (s' c' : Nat) (x y : Int) (hx : x = (c' : Int)) (hy : y = (s' : Int)) (hs : s' + e + c = d + 4294967296 * c') (hs2 : s' < 4294967296) (hc' : c' ≤ 1) => show ∃ (i' c' : Nat) (R' : List Nat), Value.int .u64 x = .int .u64 (c' : Int) ∧ Value.int .i64 ((i : Int) + 1) = .int .i64 (i' : Int) ∧ i' ≤ n ∧ c' ≤ 1 ∧ R'.length = n ∧ dok 4294967296 R' ∧ dv 4294967296 (R'.take i') + dv 4294967296 (E.take i') = dv 4294967296 (D.take i') + 4294967296 ^ i' * c' ∧ Blk (wr.setCell ⟨g, i, none⟩ (.int .u32 y)) g 86 (dc R') ∧ Below w.heap.size w (wr.setCell ⟨g, i, none⟩ (.int .u32 y)) from by
        subst hx hy
        have hrl := HRL.out
        refine ⟨i + 1, c', R.set i s', rfl, by go_num, by omega, hc', by rw [List.length_set]; exact hrl, dok_set HR.out _ _ hs2, sub_round R D E i c d e s' c' (by omega) HDt.out he hs HI.out, ?_, ?_⟩
        · rw [← dc_set]; exact (store_step HK.out i _).1
        · exact (store_step HK.out i _).2.2 _ _ HBW.out HG.out)
      clear hcell hd ho
      rw [eA]
      clear eA
      by_cases hlm : i < m
      · have hlmi : (i : Int) < m := by omega
        obtain ⟨e, he⟩ : ∃ e, E[i]? = some e := ⟨_, List.getElem?_eq_getElem (by have := HL2.out; omega)⟩
        have heB := dok_at HD2.out he
        obtain ⟨b2, off2, eB, hbl2, hcell2⟩ := HA2.out (by omega)
        have c1 := hcell2 wr HBW.out i e he
        have heI : (e : Int) < 4294967296 := by omega
        have HEt := Lib.hid (show E.getD i 0 = e by simp [List.getD, he])
        clear hcell2 he
        rw [eB]
        clear eB
        go_wp2
        go_roundw
        case rel =>
          by_cases ht : c + e ≤ d
          · exact HN.out e HEt.out (d - c - e) 0 _ _ (by simp only [IntKind.wrap_u64]; omega) (by simp only [IntKind.wrap_u64]; omega) (by omega) (by omega) (by decide)
          · exact HN.out e HEt.out (d + 4294967296 - c - e) 1 _ _ (by simp only [IntKind.wrap_u64]; omega) (by simp only [IntKind.wrap_u64]; omega) (by omega) (by omega) (by decide)
        case measure => simp only [intOf]; rw [show ((i : Int) + 1).toNat = i + 1 by omega]; omega
      · have hlmi : ¬ (i : Int) < m := by omega
        have HEt := Lib.hid (show E.getD i 0 = 0 by simp [List.getD, List.getElem?_eq_none_iff.2 (by have := HL2.out; omega : E.length ≤ i)])
        go_wp2
        go_roundw
        case rel =>
          by_cases ht : c ≤ d
          · exact HN.out 0 HEt.out (d - c) 0 _ _ (by simp only [IntKind.wrap_u64]; omega) (by simp only [IntKind.wrap_u64]; omega) (by omega) (by omega) (by decide)
          · exact HN.out 0 HEt.out (d + 4294967296 - c) 1 _ _ (by simp only [IntKind.wrap_u64]; omega) (by simp only [IntKind.wrap_u64]; omega) (by omega) (by omega) (by decide)
        case measure => simp only [intOf]; rw [show ((i : Int) + 1).toNat = i + 1 by omega]; omega
    · have hlti : ¬ (i : Int) < n := by omega
      obtain rfl : n = i := by omega
      have h0 := HI.out
      rw [List.take_of_length_le (show R.length ≤ n by rw [HRL.out]; exact Nat.le_refl _), List.take_of_length_le (show D.length ≤ n by rw [HL.out]; exact Nat.le_refl _), List.take_of_length_le (show E.length ≤ n by rw [HL2.out]; exact hmn)] at h0
      have h1 := dv_lt (by decide) R HR.out
      rw [HRL.out] at h1
      have hc0 : c = 0 := by
        rcases Nat.lt_or_ge c 1 with g | g
        · omega
        · obtain rfl : c = 1 := by omega
          have := HLE.out
          rw [Nat.mul_one] at h0
          omega
      have HF := Lib.hid (show dv 4294967296 R + dv 4294967296 E = dv 4294967296 D by rw [hc0] at h0; omega)
      clear h0 h1 hc0
      go_wp2
      go_ret
      refine ⟨g, R, ?_, HK.out, HG.out, HR.out, HF.out, HRL.out, HBW.out⟩
      rw [HRL.out]; rfl
end

section
set_option maxRecDepth 100000 in
set_option maxHeartbeats 4000000 in
theorem Of_any (a : Int) (w : World) (h0 : -9223372036854775808 ≤ a) (h1 : a ≤ 9223372036854775807) : Calls Try.prog 45 #[.int .i64 a] w fun e w' => ∃ v, e = .returned v ∧ NB w' w.heap.size v a 2 ∧ Below w.heap.size w w' := by
  obtain ⟨m, hm⟩ : ∃ m : Nat, m = a.natAbs := ⟨_, rfl⟩
  have hmB : m ≤ 9223372036854775808 := by omega
  obtain ⟨lo, hlo⟩ : ∃ lo, lo = m % 4294967296 := ⟨_, rfl⟩
  obtain ⟨hi, hhi⟩ : ∃ hi, hi = m / 4294967296 := ⟨_, rfl⟩
  have hloB : (lo : Int) < 4294967296 := by omega
  have hhiB : (hi : Int) < 4294967296 := by omega
  obtain ⟨W1, hW1⟩ : ∃ W, W = (w.alloc (.cells #[.bool false, .slice none 0 0] 37)).alloc (.cells #[.int .u32 (lo : Int), .int .u32 (hi : Int)] 86) := ⟨_, rfl⟩
  have HB := Lib.hid (show Below w.heap.size w W1 by rw [hW1]; exact ((Below.refl _ w).alloc (Nat.le_refl _) _).alloc (by simp) _)
  have HK := Lib.hid (show Blk W1 w.heap.size 37 #[.bool false, .slice none 0 0] by rw [hW1]; exact (Blk.new _ _ _).alloc _)
  have HO := Lib.hid (show Own W1 w.heap.size (some ⟨w.heap.size + 1, 0, none⟩) 2 [lo, hi] by
    rw [hW1]
    exact Own.of_blk (D := [lo, hi]) (show Blk _ _ 86 (dc [lo, hi]) from Blk.new_ (by simp) rfl) (Nat.le_succ _) (by intro d hd; simp at hd; omega))
  have HD := Lib.hid (show dv 4294967296 [lo, hi] = m by simp only [dv]; omega)
  have HM := Lib.hid hm
  by_cases hn : a < 0
  · have CS := Lib.hid (signed_any true (some ⟨w.heap.size + 1, 0, none⟩) 2 2 _ w.heap.size W1 HO.out (Sl.own (Nat.le_refl _) (by decide)))
    have HZ := Lib.hid (show sgn true (dv 4294967296 [lo, hi]) = a by rw [HD.out]; simp only [sgn, if_true]; omega)
    rw [HZ.out] at CS
    have q1 : IntKind.u64.wrap a = a + 18446744073709551616 := by rw [IntKind.wrap_u64]; omega
    have q2 : IntKind.u64.wrap (-(a + 18446744073709551616)) = (m : Int) := by rw [IntKind.wrap_u64]; omega
    have e1 : (m : Int) % 4294967296 = (lo : Int) := by omega
    have e2 : (m : Int) / 4294967296 = (hi : Int) := by omega
    clear hm hlo hhi
    go_enter Try.func45, Try.ntmps45
    go_wp2_with fail
    try clear q1 q2
    clear e1 e2
    rw [← hW1]
    refine CS.out.mono ?_
    rintro e w2 ⟨v, rfl, hv, hb⟩
    have HV := Lib.hid hv
    have HB2 := Lib.hid (HB.out.trans (hb.mono HB.out.size))
    have HK2 := Lib.hid (HK.out.below hb)
    clear hb hv hW1
    obtain ⟨Ar, nr, cr, Dr, hevr, hor, hsr, hnr, hvr, hNr⟩ := HV.out
    obtain ⟨sbr, hsbr⟩ : ∃ b, b = decide (a < 0) := ⟨_, rfl⟩
    rw [← hsbr] at hevr
    subst hevr
    have HSBr := Lib.hid hsbr
    clear hsbr
    go_wp2_with ((refine wpList_store_row (o := ⟨none, _, _, _, _, _⟩) rfl 37 _ _ rfl (w.heap.size) #[.bool sbr, .slice Ar nr cr] rfl rfl 37 _ HK2.out (by kernel_rfl) rfl (by simp [Value.oneCell']) ?_))
    refine bodyPost_ret (results_c1 rfl _ _ _ (w.heap.size) _ rfl (load24 (HK2.out.setRow (ds := #[.bool sbr, .slice Ar nr cr])) rfl)) rfl ?_
    exact ⟨_, rfl, NB.row ⟨Ar, nr, cr, Dr, by rw [HSBr.out], hor, hsr, hnr, hvr, hNr⟩ HK2.out _, HB2.out.grown (grown_row w2 (w.heap.size) _) HB2.out.size (fun j hj => by first | (injection hj with hj; omega) | omega | (cases hj; exact Nat.le_refl _))⟩
  · have CS := Lib.hid (signed_any false (some ⟨w.heap.size + 1, 0, none⟩) 2 2 _ w.heap.size W1 HO.out (Sl.own (Nat.le_refl _) (by decide)))
    have HZ := Lib.hid (show sgn false (dv 4294967296 [lo, hi]) = a by rw [HD.out]; simp only [sgn, if_neg (by decide : ¬ false = true)]; omega)
    rw [HZ.out] at CS
    obtain rfl : a = (m : Int) := by omega
    have e1 : (m : Int) % 4294967296 = (lo : Int) := by omega
    have e2 : (m : Int) / 4294967296 = (hi : Int) := by omega
    clear hm hlo hhi
    go_enter Try.func45, Try.ntmps45
    go_wp2_with fail
    try clear q1 q2
    clear e1 e2
    rw [← hW1]
    refine CS.out.mono ?_
    rintro e w2 ⟨v, rfl, hv, hb⟩
    have HV := Lib.hid hv
    have HB2 := Lib.hid (HB.out.trans (hb.mono HB.out.size))
    have HK2 := Lib.hid (HK.out.below hb)
    clear hb hv hW1
    obtain ⟨Ar, nr, cr, Dr, hevr, hor, hsr, hnr, hvr, hNr⟩ := HV.out
    obtain ⟨sbr, hsbr⟩ : ∃ b, b = decide ((m : Int) < 0) := ⟨_, rfl⟩
    rw [← hsbr] at hevr
    subst hevr
    have HSBr := Lib.hid hsbr
    clear hsbr
    go_wp2_with ((refine wpList_store_row (o := ⟨none, _, _, _, _, _⟩) rfl 37 _ _ rfl (w.heap.size) #[.bool sbr, .slice Ar nr cr] rfl rfl 37 _ HK2.out (by kernel_rfl) rfl (by simp [Value.oneCell']) ?_))
    refine bodyPost_ret (results_c1 rfl _ _ _ (w.heap.size) _ rfl (load24 (HK2.out.setRow (ds := #[.bool sbr, .slice Ar nr cr])) rfl)) rfl ?_
    exact ⟨_, rfl, NB.row ⟨Ar, nr, cr, Dr, by rw [HSBr.out], hor, hsr, hnr, hvr, hNr⟩ HK2.out _, HB2.out.grown (grown_row w2 (w.heap.size) _) HB2.out.size (fun j hj => by first | (injection hj with hj; omega) | omega | (cases hj; exact Nat.le_refl _))⟩
end

section
set_option maxRecDepth 100000 in
set_option maxHeartbeats 4000000 in
theorem Same_any (na : Bool) (A : Option Addr) (n c : Nat) (D : List Nat) (A2 : Option Addr) (c2 : Nat) (w : World) (h : DG w A n D) (h2 : DG w A2 n D) (hn : n ≤ 100000) :
    Calls Try.prog 32 #[.agg #[.bool na, .slice A n c], .agg #[.bool na, .slice A2 n c2]] w fun e w' => e = .returned (.bool true) ∧ Below w.heap.size w w' := by
  obtain ⟨W0, hW0⟩ : ∃ W, W = (w.alloc (.cells #[.bool na, .slice A n c] 37)).alloc (.cells #[.bool na, .slice A2 n c2] 37) := ⟨_, rfl⟩
  have HB := Lib.hid (show Below w.heap.size w W0 by rw [hW0]; exact ((Below.refl _ w).alloc (Nat.le_refl _) _).alloc (by simp) _)
  have K2 := Lib.hid (show Blk W0 w.heap.size 37 #[.bool na, .slice A n c] by rw [hW0]; exact (Blk.new _ _ _).alloc _)
  have K3 := Lib.hid (show Blk W0 (w.heap.size + 1) 37 #[.bool na, .slice A2 n c2] by rw [hW0]; exact Blk.new_ (by simp) rfl)
  have K2_0 : W0.cell? ⟨w.heap.size, 0, none⟩ = some (.bool na) := K2.out.cell 0
  have K2_1 : W0.cell? ⟨w.heap.size, 1, none⟩ = some (.slice A n c) := K2.out.cell 1
  have K3_0 : W0.cell? ⟨w.heap.size + 1, 0, none⟩ = some (.bool na) := K3.out.cell 0
  have K3_1 : W0.cell? ⟨w.heap.size + 1, 1, none⟩ = some (.slice A2 n c2) := K3.out.cell 1
  have HA := Lib.hid (h.below HB.out).at
  have HA2 := Lib.hid (h2.below HB.out).at
  have HL := Lib.hid h.1
  have hbb : (na != na) = false := by simp
  have hbb' : (na == na) = true := by simp
  clear h h2
  go_enter Try.func32, Try.ntmps32
  go_upto_region 1 with fail
  rw [← hW0]
  clear hW0
  go_wp2
  clear K2_0 K2_1 K3_0 K3_1 hbb hbb'
  go_loopw [5] (fun s5 wr => ∃ k : Nat, s5 = .int .i64 (k : Int) ∧ k ≤ n ∧ Below W0.heap.size W0 wr) (fun s5 _ => n - (intOf s5).toNat)
  case atStart => exact ⟨0, rfl, Nat.zero_le _, Below.refl _ _⟩
  case round =>
    obtain ⟨k, rfl, hkn, hb⟩ := hrel
    have HB2 := Lib.hid hb
    have K2_1 : wr.cell? ⟨w.heap.size, 1, none⟩ = some (.slice A n c) := (K2.out.below hb).cell 1
    have K3_1 : wr.cell? ⟨w.heap.size + 1, 1, none⟩ = some (.slice A2 n c2) := (K3.out.below hb).cell 1
    clear hb
    by_cases hk : k = n
    · subst hk
      have hlt : ¬ ((k : Int) < (k : Int)) := by omega
      go_wp2
      go_ret
      exact ⟨rfl, HB.out.trans (HB2.out.mono HB.out.size)⟩
    · have hlt : (k : Int) < (n : Int) := by omega
      have hlt0 : (0 : Int) ≤ (k : Int) := by omega
      obtain ⟨b, off, rfl, hbl, hc⟩ := HA.out (by omega)
      obtain ⟨b2, off2, rfl, hbl2, hc2⟩ := HA2.out (by omega)
      obtain ⟨d, hd⟩ : ∃ d, D[k]? = some d := ⟨_, List.getElem?_eq_getElem (by have := HL.out; omega)⟩
      have c0 := hc wr HB2.out k d hd
      have c1 := hc2 wr HB2.out k d hd
      clear hc hc2 hd
      have hdd : ((d : Int) != (d : Int)) = false := by simp
      go_wp2
      go_quiet (fail)
      have HBQ := Lib.hid (below_drewN (n := nq) HB2.out)
      go_wp2
      go_roundw
      case rel => exact ⟨k + 1, by go_num, by omega, HBQ.out⟩
      case measure => simp only [intOf]; omega
end

section
set_option maxRecDepth 100000 in
set_option maxHeartbeats 4000000 in
theorem Sign_any (a : Value) (z : Int) (N : Nat) (w : World) (ha : BG w a z N) : Calls Try.prog 62 #[a] w fun e w' => e = .returned (.int .i64 z.sign) ∧ Below w.heap.size w w' := by
  obtain ⟨na, A, n, c, D, rfl, hd, hs, hn, hz⟩ := ha
  obtain ⟨W0, hW0⟩ : ∃ W, W = w.alloc (.cells #[.bool na, .slice A n c] 37) := ⟨_, rfl⟩
  have HB := Lib.hid (show Below w.heap.size w W0 by rw [hW0]; exact (Below.refl _ w).alloc (Nat.le_refl _) _)
  have K2 := Lib.hid (show Blk W0 w.heap.size 37 #[.bool na, .slice A n c] by rw [hW0]; exact Blk.new _ _ _)
  have CT := Lib.hid (trim_any A n c D W0 (hd.below HB.out) hs)
  have K_0 : W0.cell? ⟨w.heap.size, 0, none⟩ = some (.bool na) := K2.out.cell 0
  have K_1 : W0.cell? ⟨w.heap.size, 1, none⟩ = some (.slice A n c) := K2.out.cell 1
  have HZ := Lib.hid hz
  have HD := Lib.hid hd
  clear hd hs hn hz
  go_enter Try.func62, Try.ntmps62
  go_wp2_with fail
  rw [← hW0]
  clear hW0
  refine CT.out.mono ?_
  rintro e w1 ⟨k, rfl, ht, rfl⟩
  have HT := Lib.hid ht
  clear ht
  by_cases h0 : k = 0
  · subst h0
    have HR := Lib.hid (show (0 : Int) = z.sign by
      have hd0 : dv 4294967296 D = 0 := by rw [← HT.out.dv]; rfl
      rw [HZ.out, hd0, sgn_zero]; rfl)
    go_wp2_with fail
    go_ret
    exact ⟨by rw [← HR.out]; rfl, HB.out⟩
  · have hk0 : ((k : Int) == 0) = false := by simp; omega
    have hnz : dv 4294967296 D ≠ 0 := by
      have h1 := nmz_zero (B := 4294967296) (by decide) (D.take k) HT.out.nmz
      rw [HT.out.dv] at h1
      intro e
      have h2 := congrArg List.length (h1.1 e)
      have h3 := HT.out.1
      simp at h2
      rcases h2 with h2 | h2
      · omega
      · subst h2; simp at h3; omega
    cases na with
    | true =>
      have HR := Lib.hid (show (-1 : Int) = z.sign by rw [HZ.out]; unfold sgn; rw [if_pos rfl, Int.sign_neg, Int.sign_natCast_of_ne_zero hnz])
      go_wp2_with fail
      go_ret
      exact ⟨by rw [← HR.out]; rfl, HB.out⟩
    | false =>
      have HR := Lib.hid (show (1 : Int) = z.sign by rw [HZ.out]; unfold sgn; rw [if_neg (by decide), Int.sign_natCast_of_ne_zero hnz])
      go_wp2_with fail
      go_ret
      exact ⟨by rw [← HR.out]; rfl, HB.out⟩
end

section
def bigc (x : Bool × Option Addr × Nat × Nat) : List Value := [.bool x.1, .slice x.2.1 x.2.2.1 x.2.2.2]
def SmP (L : List (Bool × Option Addr × Nat × Nat)) (w : World) (e : Ending) (w' : World) : Prop := ∃ b, e = .returned (.bool b) ∧ (b = true → ∀ x ∈ L, x.2.2.1 ≤ 8) ∧ Below w.heap.size w w'
end

section
open Go.Sort
/-- An integer in a value, its digits in an own block, not necessarily normal. -/
def OB (w : World) (base : Nat) (v : Value) (z : Int) (N : Nat) : Prop := ∃ neg A n c D, v = .agg #[.bool neg, .slice A n c] ∧ Own w base A n D ∧ Sl A n c ∧ n ≤ N ∧ z = sgn neg (dv 4294967296 D)
theorem OB.below {w w' : World} {base N : Nat} {v : Value} {z : Int} (h : OB w base v z N) (hb : Below w.heap.size w w') : OB w' base v z N := by
  obtain ⟨neg, A, n, c, D, e, ho, hs, hn, hz⟩ := h
  exact ⟨neg, A, n, c, D, e, ho.below hb, hs, hn, hz⟩
theorem OB.bg {w : World} {base N : Nat} {v : Value} {z : Int} (h : OB w base v z N) : BG w v z N := by
  obtain ⟨neg, A, n, c, D, e, ho, hs, hn, hz⟩ := h
  exact ⟨neg, A, n, c, D, e, ho.dg, hs, hn, hz⟩
theorem Same_nb {w : World} {b1 b2 N1 N2 : Nat} {v1 v2 : Value} {z : Int} (h1 : NB w b1 v1 z N1) (h2 : NB w b2 v2 z N2) (hN : N1 ≤ 100000) : Calls Try.prog 32 #[v1, v2] w fun e w' => e = .returned (.bool true) ∧ Below w.heap.size w w' := by
  obtain ⟨A, n, c, D, rfl, ho, hs, hn, hv, hN1⟩ := h1
  obtain ⟨A2, n2, c2, D2, rfl, ho2, hs2, hn2, hv2, hN2⟩ := h2
  obtain rfl : D = D2 := nmz_inj (by decide) _ _ ho.2.1 ho2.2.1 hn hn2 (hv.trans hv2.symm)
  obtain rfl : n = n2 := by rw [← ho.1, ← ho2.1]
  exact Same_any (decide (z < 0)) A n c D A2 c2 w ho.dg ho2.dg (by omega)
section
variable {P : Program} {ops : Array Oper} {Q : Exit → Act → World → Prop} {S : World → Prop}
theorem wpM_apart {n : Nat} {T : List Oper} {a : Act} {listed : Array Bool} {w : World} (dst : Nat → Nat) (todo : List Nat) (Spec : Nat → Value → World → Prop) (ap : Nat → Nat → Bool)
    (hB : (decide (todo.map dst).Nodup && decide todo.Nodup && Region.sinkB .any ops n && Region.chainB .any ops n && decide (n < ops.size) && backB ops n && todo.all (fun j => decide (j < n) && !listed.getD j true) && (List.range n).all (fun j => todo.contains j || listed.getD j false) && Region.seqB .any ops T.length n (Array.replicate n true ++ Array.replicate (ops.size - n) false)) = true)
    (hap : ∀ i j, ap i j = true → ap j i = true ∧ i ≠ j)
    (hmono : ∀ i v w w', Spec i v w → Below w.heap.size w w' → Spec i v w') (hS : S w)
    (hstep : ∀ i ∈ todo, ∃ o, ops[i]? = some o ∧ o.dst = some (dst i) ∧ ∀ (vs : Nat → Value) (w : World) (K : Act → World → Prop), S w → (∀ j ∈ todo, depB ops i j = true → Spec j (vs j) w) →
      (∀ v w', S w' → Below w.heap.size w w' → Spec i v w' → (∀ j, ap i j = true → ∀ u, Spec j u w → v ≠ u) → K ((puts dst todo vs a).put (some (dst i)) v) w') →
      if Region.wanted o (yielded ops (puts dst todo vs a).tmps) = true then Oper.wp P o (puts dst todo vs a) w K Q else K ((puts dst todo vs a).put (some (dst i)) undef) w)
    (hend : ∀ vs w, S w → (∀ j ∈ todo, Spec j (vs j) w) → (∀ i ∈ todo, ∀ j ∈ todo, ap i j = true → vs i ≠ vs j) → wpList P ops Q T (puts dst todo vs a) w) :
    wpM P ops Q S n T todo.length listed a w := by
  refine wpM_inv (S := S) dst todo (fun d vs w => S w ∧ (∀ j ∈ todo, d j = true → Spec j (vs j) w) ∧ (∀ i ∈ todo, ∀ j ∈ todo, ap i j = true → d i = true → d j = true → vs i ≠ vs j)) hB (fun _ _ _ h => h.1) ⟨hS, (fun _ _ h => by cases h), (fun _ _ _ _ _ h => by cases h)⟩ ?_ ?_
  · intro i hi
    obtain ⟨o, ho, hdst, hs⟩ := hstep i hi
    refine ⟨o, ho, hdst, fun d vs w K hI hdi hdep hK => ?_⟩
    obtain ⟨h1, h2, h3⟩ := hI
    refine hs vs w K h1 (fun j hj hd => h2 j hj (hdep j hj hd)) (fun v w' hS' hb hsp hne => hK v w' ⟨hS', fun j hj hd => ?_, fun j hj k hk hjk hdj hdk => ?_⟩)
    · by_cases e : j = i
      · subst e; rw [upd_same]; exact hsp
      · rw [upd_other _ _ _ _ e] at hd ⊢
        exact hmono j _ w w' (h2 j hj hd) hb
    · by_cases e : j = i
      · subst e
        have hkj : k ≠ j := fun e => (hap _ _ hjk).2 e.symm
        rw [upd_same, upd_other _ _ _ _ hkj]
        rw [upd_other _ _ _ _ hkj] at hdk
        exact hne k hjk _ (h2 k hk hdk)
      · rw [upd_other _ _ _ _ e] at hdj ⊢
        by_cases e2 : k = i
        · subst e2
          rw [upd_same]
          exact fun e3 => hne j (hap _ _ hjk).1 _ (h2 j hj hdj) e3.symm
        · rw [upd_other _ _ _ _ e2] at hdk ⊢
          exact h3 j hj k hk hjk hdj hdk
  · intro d vs w hd hI
    exact hend vs w hI.1 (fun j hj => hI.2.1 j hj (hd j hj)) (fun i hi j hj h => hI.2.2 i hi j hj h (hd i hi) (hd j hj))
end
theorem u32_bdx {n : Int} (h : (Lit.int .u32 n).wf = true) : 0 ≤ n ∧ n ≤ 4294967295 := by
  have h1 : IntKind.u32.min = 0 := rfl
  have h2 : IntKind.u32.max = 4294967295 := rfl
  simp only [Lit.wf, Bool.and_eq_true, decide_eq_true_eq, h1, h2] at h
  exact h
theorem Try.cells86 : Try.prog.cellsOf 86 = 1 := by kernel_rfl
open Go.Deep Go.WideElems in
theorem digs_trod {H : Type} {enc : TypeId × Value → H} {W : World} {v : Value} {fuel : Nat} {y : DataW H × List MemPlace} (h : DataW.trod enc Try.prog W 0 (fun _ => true) true fuel 35 [v] = some y) (hlt : ∀ x ∈ y.2, x.block < W.heap.size) :
    ∃ (A : Option Addr) (n c : Nat) (D : List Nat), v = .slice A n c ∧ DG W A n D ∧ Sl A n c := by
  rcases open_ints Try.underlying35 Try.underlying86 Try.cells86 h with ⟨hcs, hx⟩ | ⟨a, len, cap, zs, hcs, _, hl, hm, hz, hx, hcell, hwz⟩
  · obtain rfl : v = .slice none 0 0 := by simpa using hcs
    exact ⟨_, _, _, [], rfl, DG.empty _ _, Sl.nil⟩
  · obtain rfl : v = .slice (some a) len cap := by simpa using hcs
    simp only [if_true] at hz
    subst hx
    unfold maxLen at hm
    have hsp : 0 < cap → a.spot = none := fun h0 => by
      have := hcell 0 (by omega)
      simpa [Addr.add] using World.cell?_spot this
    refine ⟨_, _, _, (zs.take len).map Int.toNat, rfl, ⟨by rw [List.length_map, List.length_take]; omega, fun d hd => ?_, fun hn => ?_⟩, hl, by omega, (fun h => by cases h), fun b hb h0 => by cases hb; exact hsp h0⟩
    · obtain ⟨x, hx, rfl⟩ := List.mem_map.1 hd
      have := u32_bdx (hwz x (List.mem_of_mem_take hx))
      omega
    · obtain ⟨b, off, spot⟩ := a
      have hspot : spot = none := hsp (by omega)
      subst hspot
      refine ⟨b, off, rfl, hlt (.cell b off) (MemPlace.mem_row.2 ⟨0, by omega, by simp⟩), fun i d hi => ?_⟩
      rw [List.getElem?_map, Option.map_eq_some_iff] at hi
      obtain ⟨x, hx, rfl⟩ := hi
      rw [List.getElem?_take] at hx
      split at hx
      · have hi2 : i < zs.length := (List.getElem?_eq_some_iff.1 hx).1
        have h3 := hcell i hi2
        rw [add_plain] at h3
        rw [h3]
        obtain ⟨g0, g1⟩ := u32_bdx (hwz x (List.mem_of_getElem? hx))
        simp [List.getD, hx]
        omega
      · cases hx
theorem Try.cells37 : Try.prog.cellsOf 37 = 2 := by kernel_rfl
open Go.Deep Go.WideElems in
set_option maxRecDepth 100000 in
theorem open_Big {H : Type} {enc : TypeId × Value → H} {W : World} {r : Reach} {b0 : Nat} {v : Value} {d : DataW H} {p : List MemPlace}
    (hv : Value.okWide Try.prog W r b0 37 v) (h : DataW.Trod enc Try.prog W 0 (fun _ => true) true 37 v d p) (hlt : ∀ x ∈ p, x.block < W.heap.size) :
    ∃ (x0 : Bool) (A1 : Option Addr) (n1 c1 : Nat) (l1 : List Nat), v = .agg #[.bool x0, .slice A1 n1 c1] ∧ DG W A1 n1 l1 ∧ Sl A1 n1 c1 := by
  have hv0 := hv
  obtain ⟨cs, rfl, hsz⟩ := okWide_struct Try.underlying37 hv
  rw [Try.cells37] at hsz
  obtain ⟨fuel, hf⟩ := h
  obtain ⟨ys, n', hn', hy, hlen, hyl, hg⟩ := DataW.trod_struct Try.underlying37 hf
  simp only [Prod.mk.injEq] at hy
  obtain ⟨-, hp⟩ := hy
  rcases cs with ⟨l⟩
  have hl4 : l.length = 2 := by simpa using hsz
  have key : ∀ (j : Nat) (f : Field) (u : Value), (match Try.prog.underlying 37 with | some (.struct fs) => fs[j]? | _ => none) = some f → l[j]? = some u → ∃ y, DataW.trod enc Try.prog W 0 (fun _ => true) true n' f.type [u] = some y ∧ ∀ x ∈ y.2, x.block < W.heap.size := by
    intro j f u hj hu
    rw [Try.underlying37] at hj
    obtain ⟨ho, hk⟩ := hone_of (P := Try.prog) (by kernel_rfl) j f hj
    have h1 := hg j f hj
    rw [ho, hk] at h1
    have hjl : j < l.length := (List.getElem?_eq_some_iff.1 hu).1
    have hys : ys[j]? = some (ys[j]'(by rw [hyl]; have := (Array.getElem?_eq_some_iff.1 hj).1; simpa using this)) := List.getElem?_eq_getElem _
    have hone' : ((Value.cells (.agg ⟨l⟩)).toList.drop j).take 1 = [u] := by
      show (l.drop j).take 1 = [u]
      rw [List.drop_eq_getElem_cons hjl]
      have := (List.getElem?_eq_some_iff.1 hu).2
      simp [this]
    rw [hone'] at h1
    refine ⟨_, h1.trans hys, fun x hx => hlt x ?_⟩
    rw [hp]
    exact List.mem_flatMap.2 ⟨_, List.getElem_mem _, hx⟩
  match l, hl4 with
  | [u0, u1], _ =>
    obtain ⟨y0, t0, hl0⟩ := key 0 _ u0 (by rw [Try.underlying37]; rfl) rfl
    obtain ⟨y1, t1, hl1⟩ := key 1 _ u1 (by rw [Try.underlying37]; rfl) rfl
    obtain ⟨x0, g0, _⟩ := DataW.trod_bool Try.underlying4 t0
    obtain rfl : u0 = .bool x0 := by simpa using g0
    obtain ⟨A1, n1, c1, l1, rfl, b1, k1⟩ := digs_trod t1 hl1
    exact ⟨x0, A1, n1, c1, l1, rfl, b1, k1⟩
theorem OB.grow {w : World} {base N : Nat} {v : Value} {z : Int} {na : Bool} {A : Option Addr} {n c : Nat} {D : List Nat} (ho : Own w base A n D) (hs : Sl A n c) (hn : n ≤ N) (hz : z = sgn na (dv 4294967296 D)) (e : v = .agg #[.bool na, .slice A n c]) : OB w base v z N := ⟨na, A, n, c, D, e, ho, hs, hn, hz⟩
theorem OB.mono {w : World} {base b2 N : Nat} {v : Value} {z : Int} (h : OB w base v z N) (hb : b2 ≤ base) : OB w b2 v z N := by
  obtain ⟨neg, A, n, c, D, e, ho, hs, hn, hz⟩ := h
  exact ⟨neg, A, n, c, D, e, ho.mono hb, hs, hn, hz⟩
theorem NB.expose {w : World} {base N : Nat} {v : Value} {z : Int} (h : NB w base v z N) : ∃ s A n c, v = .agg #[.bool s, .slice A n c] := by
  obtain ⟨A, n, c, D, e, _⟩ := h
  exact ⟨_, _, _, _, e⟩
theorem OB.expose {w : World} {base N : Nat} {v : Value} {z : Int} (h : OB w base v z N) : ∃ s A n c, v = .agg #[.bool s, .slice A n c] := by
  obtain ⟨neg, A, n, c, D, e, _⟩ := h
  exact ⟨_, _, _, _, e⟩
/-- A new block for an integer. -/
def NwB (w : World) (base : Nat) (v : Value) : Prop := ∃ g, v = .pointer (some ⟨g, 0, none⟩) ∧ base ≤ g ∧ Blk w g 37 #[.bool false, .slice none 0 0]
theorem NwB.below {w w' : World} {base : Nat} {v : Value} (h : NwB w base v) (hb : Below w.heap.size w w') : NwB w' base v := by
  obtain ⟨g, e, hg, hk⟩ := h
  exact ⟨g, e, hg, hk.below hb⟩
theorem NwB.new {w : World} {base : Nat} (hb : base ≤ w.heap.size) : NwB (w.alloc (.cells #[.bool false, .slice none 0 0] 37)) base (.pointer (some ⟨w.heap.size, 0, none⟩)) := ⟨_, rfl, hb, Blk.new _ _ _⟩
theorem NwB.ne {w : World} {base : Nat} {u : Value} (h : NwB w base u) : Value.pointer (some ⟨w.heap.size, 0, none⟩) ≠ u := by
  obtain ⟨g, rfl, _, hk⟩ := h
  intro e
  injection e with e
  injection e with e
  injection e with e
  have := hk.lt
  omega
def ap2 (a b i j : Nat) : Bool := (i == a && j == b) || (i == b && j == a)
theorem ap2_no {a b i j : Nat} (h1 : i ≠ a) (h2 : i ≠ b) : ¬ ap2 a b i j = true := by
  simp [ap2, h1, h2]
theorem ap2_sym {a b : Nat} (h : a ≠ b) (i j : Nat) (hi : ap2 a b i j = true) : ap2 a b j i = true ∧ i ≠ j := by
  simp only [ap2, Bool.or_eq_true, Bool.and_eq_true, beq_iff_eq] at hi ⊢
  omega
theorem ap2_l {a b j : Nat} (_h : a ≠ b) (hj : ap2 a b a j = true) : j = b := by
  simp only [ap2, Bool.or_eq_true, Bool.and_eq_true, beq_iff_eq] at hj
  omega
theorem ap2_r {a b j : Nat} (_h : a ≠ b) (hj : ap2 a b b j = true) : j = a := by
  simp only [ap2, Bool.or_eq_true, Bool.and_eq_true, beq_iff_eq] at hj
  omega
def ap0 (_ _ : Nat) : Bool := false
theorem ap0_no {i j : Nat} : ¬ ap0 i j = true := fun h => by cases h
end

section
theorem sgn_add (s : Bool) (x y : Nat) : sgn s (x + y) = sgn s x + sgn s y := by cases s <;> simp [sgn] <;> omega
theorem sgn_sub (s t : Bool) (x y r : Nat) (h : s ≠ t) (hr : r + y = x) : sgn s r = sgn s x + sgn t y := by
  cases s <;> cases t <;> simp_all [sgn] <;> omega
theorem nmz_le {D E : List Nat} (hD : dok 4294967296 D) (hE : dok 4294967296 E) (n1 : nmz D) (h : dv 4294967296 D ≤ dv 4294967296 E) : D.length ≤ E.length := by
  rcases Nat.lt_or_ge E.length D.length with g | g
  · have := nmz_len (by decide) E D hE hD n1 g; omega
  · exact g
set_option maxRecDepth 100000 in
set_option maxHeartbeats 4000000 in
theorem Add_any (a b : Value) (z1 z2 : Int) (N1 N2 : Nat) (w : World) (ha : BG w a z1 N1) (hb : BG w b z2 N2) (hN1 : N1 ≤ 50000) (hN2 : N2 ≤ 50000) : Calls Try.prog 59 #[a, b] w fun e w' => ∃ v, e = .returned v ∧ NB w' w.heap.size v (z1 + z2) (max N1 N2 + 1) ∧ Below w.heap.size w w' := by
  obtain ⟨na, A, n, c, D, rfl, hd1, hs1, hn1, hz1⟩ := ha
  obtain ⟨nb, A2, m, c2, E, rfl, hd2, hs2, hn2, hz2⟩ := hb
  obtain ⟨z, hz⟩ : ∃ z, z1 + z2 = z := ⟨_, rfl⟩
  rw [hz]
  obtain ⟨W0, hW0⟩ : ∃ W, W = ((w.alloc (.cells #[.bool na, .slice A n c] 37)).alloc (.cells #[.bool nb, .slice A2 m c2] 37)).alloc (.cells #[.bool false, .slice none 0 0] 37) := ⟨_, rfl⟩
  have HB := Lib.hid (show Below w.heap.size w W0 by rw [hW0]; exact (((Below.refl _ w).alloc (Nat.le_refl _) _).alloc (by simp) _).alloc (by simp; omega) _)
  have K2 := Lib.hid (show Blk W0 w.heap.size 37 #[.bool na, .slice A n c] by rw [hW0]; exact ((Blk.new _ _ _).alloc _).alloc _)
  have K3 := Lib.hid (show Blk W0 (w.heap.size + 1) 37 #[.bool nb, .slice A2 m c2] by rw [hW0]; exact (Blk.new_ (by simp) rfl : Blk ((w.alloc _).alloc _) _ _ _).alloc _)
  have K4 := Lib.hid (show Blk W0 (w.heap.size + 1 + 1) 37 #[.bool false, .slice none 0 0] by rw [hW0]; exact Blk.new_ (by simp) rfl)
  have HDG1 := Lib.hid hd1
  have HDG2 := Lib.hid hd2
  have CT1 := Lib.hid (fun W (hW : Below W0.heap.size W0 W) => trim_any A n c D W ((hd1.below HB.out).below hW) hs1)
  have CT2 := Lib.hid (fun W (hW : Below W0.heap.size W0 W) => trim_any A2 m c2 E W ((hd2.below HB.out).below hW) hs2)
  have HZ1 := Lib.hid hz1
  have HZ2 := Lib.hid hz2
  have HZZ := Lib.hid hz
  have HL1 := hd1.1
  have HL2 := hd2.1
  clear hd1 hd2 hs1 hs2 hz1 hz2 hz
  have K2_0 : W0.cell? ⟨w.heap.size, 0, none⟩ = some (.bool na) := K2.out.cell 0
  have K2_1 : W0.cell? ⟨w.heap.size, 1, none⟩ = some (.slice A n c) := K2.out.cell 1
  have K3_0 : W0.cell? ⟨w.heap.size + 1, 0, none⟩ = some (.bool nb) := K3.out.cell 0
  have K3_1 : W0.cell? ⟨w.heap.size + 1, 1, none⟩ = some (.slice A2 m c2) := K3.out.cell 1
  go_enter Try.func59, Try.ntmps59
  go_upto_region 1 with fail
  rw [← hW0]
  clear hW0
  have hy0 : Below W0.heap.size W0 W0.drew := below_drew (Below.refl _ _)
  refine wp_region_mix 6 (fun w' => Below W0.heap.size W0 w') (by kernel_rfl) (by decide) ?_
  generalize W0.drew = y0 at hy0 ⊢
  refine wpM_take (i := 0) (oi := ⟨some 7, _, _, _, _, _⟩) (v := ?_) rfl (by decide +kernel) (by decide +kernel) (by decide +kernel) (fun _ _ _ h => h) (Or.inl ⟨by rfl, ?_⟩) hy0 ?_
  case refine_2 =>
    intro w' hSw
    have K2_0' := keepcell hSw K2_0
    have K2_1' := keepcell hSw K2_1
    have K3_0' := keepcell hSw K3_0
    have K3_1' := keepcell hSw K3_1
    go_simp
    try (with_reducible rfl)
  try simp only [Act.put, List.setIfInBounds_toArray, List.set_cons_zero, List.set_cons_succ]
  refine wpM_take (i := 1) (oi := ⟨some 8, _, _, _, _, _⟩) (v := ?_) rfl (by decide +kernel) (by decide +kernel) (by decide +kernel) (fun _ _ _ h => h) (Or.inl ⟨by rfl, ?_⟩) hy0 ?_
  case refine_2 =>
    intro w' hSw
    have K2_0' := keepcell hSw K2_0
    have K2_1' := keepcell hSw K2_1
    have K3_0' := keepcell hSw K3_0
    have K3_1' := keepcell hSw K3_1
    go_simp
    try (with_reducible rfl)
  try simp only [Act.put, List.setIfInBounds_toArray, List.set_cons_zero, List.set_cons_succ]
  refine wpM_take (i := 3) (oi := ⟨some 10, _, _, _, _, _⟩) (v := ?_) rfl (by decide +kernel) (by decide +kernel) (by decide +kernel) (fun _ _ _ h => h) (Or.inl ⟨by rfl, ?_⟩) hy0 ?_
  case refine_2 =>
    intro w' hSw
    have K2_0' := keepcell hSw K2_0
    have K2_1' := keepcell hSw K2_1
    have K3_0' := keepcell hSw K3_0
    have K3_1' := keepcell hSw K3_1
    go_simp
    try (with_reducible rfl)
  try simp only [Act.put, List.setIfInBounds_toArray, List.set_cons_zero, List.set_cons_succ]
  refine wpM_take (i := 4) (oi := ⟨some 11, _, _, _, _, _⟩) (v := ?_) rfl (by decide +kernel) (by decide +kernel) (by decide +kernel) (fun _ _ _ h => h) (Or.inl ⟨by rfl, ?_⟩) hy0 ?_
  case refine_2 =>
    intro w' hSw
    have K2_0' := keepcell hSw K2_0
    have K2_1' := keepcell hSw K2_1
    have K3_0' := keepcell hSw K3_0
    have K3_1' := keepcell hSw K3_1
    go_simp
    try (with_reducible rfl)
  try simp only [Act.put, List.setIfInBounds_toArray, List.set_cons_zero, List.set_cons_succ]
  refine wpM_step (i := 2) (o := ⟨some 9, _, _, _, _, _⟩) rfl (by decide +kernel) (by decide) (fun K hK => ?_)
  go_simp
  refine (CT1.out y0 hy0).mono ?_
  rintro e y_ ⟨k1, rfl, ht1, hy⟩
  replace hy := hy.symm
  subst hy
  have HT1 := Lib.hid ht1
  clear ht1
  refine hK.out _ _ hy0 ?_
  clear hK K
  try simp only [Act.put, List.setIfInBounds_toArray, List.set_cons_zero, List.set_cons_succ]
  refine wpM_step (i := 5) (o := ⟨some 12, _, _, _, _, _⟩) rfl (by decide +kernel) (by decide) (fun K hK => ?_)
  go_simp
  refine (CT2.out y0 hy0).mono ?_
  rintro e y_ ⟨k2, rfl, ht2, hy⟩
  replace hy := hy.symm
  subst hy
  have HT2 := Lib.hid ht2
  clear ht2
  refine hK.out _ _ hy0 ?_
  clear hK K
  try simp only [Act.put, List.setIfInBounds_toArray, List.set_cons_zero, List.set_cons_succ]
  refine wpM_done (by decide +kernel) ?_
  simp only [List.drop_succ_cons, List.drop_zero]
  have HD1 := Lib.hid (HDG1.out.take (show k1 ≤ n by have := HT1.out.1; omega))
  have HD2 := Lib.hid (HDG2.out.take (show k2 ≤ m by have := HT2.out.1; omega))
  have hk1 : k1 ≤ N1 := by have := HT1.out.1; omega
  have hk2 : k2 ≤ N2 := by have := HT2.out.1; omega
  clear K2_0 K2_1 K3_0 K3_1
  replace K2 := Lib.hid (K2.out.below hy0)
  replace K3 := Lib.hid (K3.out.below hy0)
  replace K4 := Lib.hid (K4.out.below hy0)
  replace HB := Lib.hid (HB.out.trans (hy0.mono HB.out.size))
  have hw0 : True := trivial
  clear hy0
  have HBW := Lib.hid HB.out
  clear HL1 HL2 hn1 hn2 CT1 CT2
  have K2_0 : y0.cell? ⟨w.heap.size, 0, none⟩ = some (.bool na) := K2.out.cell 0
  have K2_1 : y0.cell? ⟨w.heap.size, 1, none⟩ = some (.slice A n c) := K2.out.cell 1
  have K3_0 : y0.cell? ⟨w.heap.size + 1, 0, none⟩ = some (.bool nb) := K3.out.cell 0
  have K3_1 : y0.cell? ⟨w.heap.size + 1, 1, none⟩ = some (.slice A2 m c2) := K3.out.cell 1
  by_cases hab : na = nb
  · subst hab
    have hbb : (na == na) = true := by simp
    have CF := Lib.hid (fun W (hW : Below y0.heap.size y0 W) => (add_any A k1 c (D.take k1) A2 k2 c2 (E.take k2) W ((HD1.out.below HBW.out).below hW) ((HD2.out.below HBW.out).below hW) (by omega) (by omega)).mono (fun e w1 h => show ∃ g R, e = .returned (.slice (some ⟨g, 0, none⟩) R.length R.length) ∧ Blk w1 g 86 (dc R) ∧ W.heap.size ≤ g ∧ dok 4294967296 R ∧ dv 4294967296 R = dv 4294967296 D + dv 4294967296 E ∧ R.length ≤ max N1 N2 + 1 ∧ Below W.heap.size W w1 from by
      obtain ⟨g, R, h1, h2, h3, h4, h5, h6, h7⟩ := h
      exact ⟨g, R, h1, h2, h3, h4, by rw [h5, HT1.out.dv, HT2.out.dv], by omega, h7⟩))
    go_upto_region 3 with fail
    have hx0 : Below y0.heap.size y0 y0.drew := below_drew (Below.refl _ _)
    refine wp_region_mix 6 (fun w' => Below y0.heap.size y0 w') (by kernel_rfl) (by decide) ?_
    generalize y0.drew = x0 at hx0 ⊢
    refine wpM_take (i := 0) (oi := ⟨some 18, _, _, _, _, _⟩) (v := ?_) rfl (by decide +kernel) (by decide +kernel) (by decide +kernel) (fun _ _ _ h => h) (Or.inl ⟨by rfl, ?_⟩) hx0 ?_
    case refine_2 =>
      intro w' hSw
      have K2_0' := keepcell hSw K2_0
      have K2_1' := keepcell hSw K2_1
      have K3_0' := keepcell hSw K3_0
      have K3_1' := keepcell hSw K3_1
      go_simp
      try (with_reducible rfl)
    try simp only [Act.put, List.setIfInBounds_toArray, List.set_cons_zero, List.set_cons_succ]
    refine wpM_take (i := 1) (oi := ⟨some 19, _, _, _, _, _⟩) (v := ?_) rfl (by decide +kernel) (by decide +kernel) (by decide +kernel) (fun _ _ _ h => h) (Or.inl ⟨by rfl, ?_⟩) hx0 ?_
    case refine_2 =>
      intro w' hSw
      have K2_0' := keepcell hSw K2_0
      have K2_1' := keepcell hSw K2_1
      have K3_0' := keepcell hSw K3_0
      have K3_1' := keepcell hSw K3_1
      go_simp
      try (with_reducible rfl)
    try simp only [Act.put, List.setIfInBounds_toArray, List.set_cons_zero, List.set_cons_succ]
    refine wpM_take (i := 2) (oi := ⟨some 20, _, _, _, _, _⟩) (v := ?_) rfl (by decide +kernel) (by decide +kernel) (by decide +kernel) (fun _ _ _ h => h) (Or.inl ⟨by rfl, ?_⟩) hx0 ?_
    case refine_2 =>
      intro w' hSw
      have K2_0' := keepcell hSw K2_0
      have K2_1' := keepcell hSw K2_1
      have K3_0' := keepcell hSw K3_0
      have K3_1' := keepcell hSw K3_1
      go_simp
      try (with_reducible rfl)
    try simp only [Act.put, List.setIfInBounds_toArray, List.set_cons_zero, List.set_cons_succ]
    refine wpM_take (i := 3) (oi := ⟨some 21, _, _, _, _, _⟩) (v := ?_) rfl (by decide +kernel) (by decide +kernel) (by decide +kernel) (fun _ _ _ h => h) (Or.inl ⟨by rfl, ?_⟩) hx0 ?_
    case refine_2 =>
      intro w' hSw
      have K2_0' := keepcell hSw K2_0
      have K2_1' := keepcell hSw K2_1
      have K3_0' := keepcell hSw K3_0
      have K3_1' := keepcell hSw K3_1
      go_simp
      try (with_reducible rfl)
    try simp only [Act.put, List.setIfInBounds_toArray, List.set_cons_zero, List.set_cons_succ]
    refine wpM_step (i := 4) (o := ⟨some 22, _, _, _, _, _⟩) rfl (by decide +kernel) (by decide) (fun K hK => ?_)
    go_simp
    refine (CF.out x0 hx0).mono ?_
    rintro e x1 ⟨g, R, rfl, hk, hg, hd, hv, hl, hc⟩
    have hx1 : Below y0.heap.size y0 x1 := hx0.trans (hc.mono hx0.size)
    have HKR := Lib.hid hk
    clear hc
    refine hK.out _ _ hx1 ?_
    clear hK K
    try simp only [Act.put, List.setIfInBounds_toArray, List.set_cons_zero, List.set_cons_succ]
    have HOR := Lib.hid (Own.of_blk HKR.out (Nat.le_refl g) hd)
    refine wpM_step (i := 5) (o := ⟨some 23, _, _, _, _, _⟩) rfl (by decide +kernel) (by decide) (fun K hK => ?_)
    go_simp
    refine (signed_any na (some ⟨g, 0, none⟩) R.length R.length R g x1 HOR.out (Sl.own (Nat.le_refl _) (by omega))).mono ?_
    rintro e x2 ⟨v, rfl, hnb, hc⟩
    have hx2 : Below y0.heap.size y0 x2 := hx1.trans (hc.mono hx1.size)
    have HV := Lib.hid hnb
    clear hc
    refine hK.out _ _ hx2 ?_
    clear hK K
    try simp only [Act.put, List.setIfInBounds_toArray, List.set_cons_zero, List.set_cons_succ]
    refine wpM_done (by decide +kernel) ?_
    simp only [List.drop_succ_cons, List.drop_zero]
    have HGG := Lib.hid (show w.heap.size ≤ g by have h1 := HB.out.size; have h2 := hx0.size; omega)
    replace HV := Lib.hid ((HV.out).mono HGG.out hl)
    have HZ := Lib.hid (show sgn na (dv 4294967296 R) = z by rw [hv, sgn_add, ← HZ1.out, ← HZ2.out]; exact HZZ.out)
    rw [HZ.out] at HV
    have HB9 := Lib.hid (HB.out.trans (hx2.mono HB.out.size))
    have K9 := Lib.hid (K4.out.below hx2)
    obtain ⟨Ar, nr, cr, Dr, hevr, hor, hsr, hnr, hvr, hNr⟩ := HV.out
    obtain ⟨sbr, hsbr⟩ : ∃ b, b = decide (z < 0) := ⟨_, rfl⟩
    rw [← hsbr] at hevr
    subst hevr
    have HSBr := Lib.hid hsbr
    clear hsbr
    go_wp2_with ((refine wpList_store_row (o := ⟨none, _, _, _, _, _⟩) rfl 37 _ _ rfl (w.heap.size + 2) #[.bool sbr, .slice Ar nr cr] rfl rfl 37 _ K9.out (by kernel_rfl) rfl (by simp [Value.oneCell']) ?_))
    refine bodyPost_ret (results_c1 rfl _ _ _ (w.heap.size + 2) _ rfl (load24 (K9.out.setRow (ds := #[.bool sbr, .slice Ar nr cr])) rfl)) rfl ?_
    exact ⟨_, rfl, NB.row ⟨Ar, nr, cr, Dr, by rw [HSBr.out], hor, hsr, hnr, hvr, hNr⟩ K9.out _, HB9.out.grown (grown_row x2 (w.heap.size + 2) _) HB9.out.size (fun j hj => by first | (injection hj with hj; omega) | omega | (cases hj; exact Nat.le_refl _))⟩
  · have hbb : (na == nb) = false := by simpa using hab
    have CC := Lib.hid (compare_any A k1 c (D.take k1) A2 k2 c2 (E.take k2) y0 (HD1.out.below HBW.out) (HD2.out.below HBW.out) (by omega) (.inr ⟨HT1.out.nmz, HT2.out.nmz⟩))
    rw [HT1.out.dv, HT2.out.dv] at CC
    have HAB := Lib.hid hab
    clear hab
    go_wp2_with fail
    refine CC.out.mono ?_
    rintro e w5 ⟨rfl, hc⟩
    replace K2 := Lib.hid (K2.out.below hc)
    replace K3 := Lib.hid (K3.out.below hc)
    replace K4 := Lib.hid (K4.out.below hc)
    replace HB := Lib.hid (HB.out.trans (hc.mono HB.out.size))
    replace HBW := Lib.hid (HBW.out.trans (hc.mono HBW.out.size))
    clear hc K2_0 K2_1 K3_0 K3_1
    have K2_0 : w5.cell? ⟨w.heap.size, 0, none⟩ = some (.bool na) := K2.out.cell 0
    have K2_1 : w5.cell? ⟨w.heap.size, 1, none⟩ = some (.slice A n c) := K2.out.cell 1
    have K3_0 : w5.cell? ⟨w.heap.size + 1, 0, none⟩ = some (.bool nb) := K3.out.cell 0
    have K3_1 : w5.cell? ⟨w.heap.size + 1, 1, none⟩ = some (.slice A2 m c2) := K3.out.cell 1
    by_cases hle : dv 4294967296 E ≤ dv 4294967296 D
    · have HLV := Lib.hid hle
      have HLE := Lib.hid (show k2 ≤ k1 by
        have := nmz_le HD2.out.2.1 HD1.out.2.1 HT2.out.nmz (by rw [HT1.out.dv, HT2.out.dv]; exact hle)
        rw [HD1.out.1, HD2.out.1] at this
        exact this)
      have hge : (scmp (dv 4294967296 D) (dv 4294967296 E)) ≥ 0 := by unfold scmp; rw [if_neg (by omega)]; split <;> omega
      obtain ⟨sc, hsc⟩ : ∃ q, scmp (dv 4294967296 D) (dv 4294967296 E) = q := ⟨_, rfl⟩
      rw [hsc] at hge ⊢
      clear hsc hle
      have CF := Lib.hid (fun W (hW : Below w5.heap.size w5 W) => (sub_any A k1 c (D.take k1) A2 k2 c2 (E.take k2) W ((HD1.out.below HBW.out).below hW) ((HD2.out.below HBW.out).below hW) (by omega) HLE.out (by rw [HT1.out.dv, HT2.out.dv]; exact HLV.out)).mono (fun e w1 h => show ∃ g R, e = .returned (.slice (some ⟨g, 0, none⟩) R.length R.length) ∧ Blk w1 g 86 (dc R) ∧ W.heap.size ≤ g ∧ dok 4294967296 R ∧ dv 4294967296 R + dv 4294967296 E = dv 4294967296 D ∧ R.length ≤ max N1 N2 + 1 ∧ Below W.heap.size W w1 from by
        obtain ⟨g, R, h1, h2, h3, h4, h5, h6, h7⟩ := h
        exact ⟨g, R, h1, h2, h3, h4, by rw [HT1.out.dv, HT2.out.dv] at h5; exact h5, by omega, h7⟩))
      go_upto_region 5 with fail
      have hx0 : Below w5.heap.size w5 w5.drew := below_drew (Below.refl _ _)
      refine wp_region_mix 6 (fun w' => Below w5.heap.size w5 w') (by kernel_rfl) (by decide) ?_
      generalize w5.drew = x0 at hx0 ⊢
      refine wpM_take (i := 0) (oi := ⟨some 28, _, _, _, _, _⟩) (v := ?_) rfl (by decide +kernel) (by decide +kernel) (by decide +kernel) (fun _ _ _ h => h) (Or.inl ⟨by rfl, ?_⟩) hx0 ?_
      case refine_2 =>
        intro w' hSw
        have K2_0' := keepcell hSw K2_0
        have K2_1' := keepcell hSw K2_1
        have K3_0' := keepcell hSw K3_0
        have K3_1' := keepcell hSw K3_1
        go_simp
        try (with_reducible rfl)
      try simp only [Act.put, List.setIfInBounds_toArray, List.set_cons_zero, List.set_cons_succ]
      refine wpM_take (i := 1) (oi := ⟨some 29, _, _, _, _, _⟩) (v := ?_) rfl (by decide +kernel) (by decide +kernel) (by decide +kernel) (fun _ _ _ h => h) (Or.inl ⟨by rfl, ?_⟩) hx0 ?_
      case refine_2 =>
        intro w' hSw
        have K2_0' := keepcell hSw K2_0
        have K2_1' := keepcell hSw K2_1
        have K3_0' := keepcell hSw K3_0
        have K3_1' := keepcell hSw K3_1
        go_simp
        try (with_reducible rfl)
      try simp only [Act.put, List.setIfInBounds_toArray, List.set_cons_zero, List.set_cons_succ]
      refine wpM_take (i := 2) (oi := ⟨some 30, _, _, _, _, _⟩) (v := ?_) rfl (by decide +kernel) (by decide +kernel) (by decide +kernel) (fun _ _ _ h => h) (Or.inl ⟨by rfl, ?_⟩) hx0 ?_
      case refine_2 =>
        intro w' hSw
        have K2_0' := keepcell hSw K2_0
        have K2_1' := keepcell hSw K2_1
        have K3_0' := keepcell hSw K3_0
        have K3_1' := keepcell hSw K3_1
        go_simp
        try (with_reducible rfl)
      try simp only [Act.put, List.setIfInBounds_toArray, List.set_cons_zero, List.set_cons_succ]
      refine wpM_take (i := 3) (oi := ⟨some 31, _, _, _, _, _⟩) (v := ?_) rfl (by decide +kernel) (by decide +kernel) (by decide +kernel) (fun _ _ _ h => h) (Or.inl ⟨by rfl, ?_⟩) hx0 ?_
      case refine_2 =>
        intro w' hSw
        have K2_0' := keepcell hSw K2_0
        have K2_1' := keepcell hSw K2_1
        have K3_0' := keepcell hSw K3_0
        have K3_1' := keepcell hSw K3_1
        go_simp
        try (with_reducible rfl)
      try simp only [Act.put, List.setIfInBounds_toArray, List.set_cons_zero, List.set_cons_succ]
      refine wpM_step (i := 4) (o := ⟨some 32, _, _, _, _, _⟩) rfl (by decide +kernel) (by decide) (fun K hK => ?_)
      go_simp
      refine (CF.out x0 hx0).mono ?_
      rintro e x1 ⟨g, R, rfl, hk, hg, hd, hv, hl, hc⟩
      have hx1 : Below w5.heap.size w5 x1 := hx0.trans (hc.mono hx0.size)
      have HKR := Lib.hid hk
      clear hc
      refine hK.out _ _ hx1 ?_
      clear hK K
      try simp only [Act.put, List.setIfInBounds_toArray, List.set_cons_zero, List.set_cons_succ]
      have HOR := Lib.hid (Own.of_blk HKR.out (Nat.le_refl g) hd)
      refine wpM_step (i := 5) (o := ⟨some 33, _, _, _, _, _⟩) rfl (by decide +kernel) (by decide) (fun K hK => ?_)
      go_simp
      refine (signed_any na (some ⟨g, 0, none⟩) R.length R.length R g x1 HOR.out (Sl.own (Nat.le_refl _) (by omega))).mono ?_
      rintro e x2 ⟨v, rfl, hnb, hc⟩
      have hx2 : Below w5.heap.size w5 x2 := hx1.trans (hc.mono hx1.size)
      have HV := Lib.hid hnb
      clear hc
      refine hK.out _ _ hx2 ?_
      clear hK K
      try simp only [Act.put, List.setIfInBounds_toArray, List.set_cons_zero, List.set_cons_succ]
      refine wpM_done (by decide +kernel) ?_
      simp only [List.drop_succ_cons, List.drop_zero]
      have HGG := Lib.hid (show w.heap.size ≤ g by have h1 := HB.out.size; have h2 := hx0.size; omega)
      replace HV := Lib.hid ((HV.out).mono HGG.out hl)
      have HZ := Lib.hid (show sgn na (dv 4294967296 R) = z by rw [sgn_sub na nb _ _ _ HAB.out hv, ← HZ1.out, ← HZ2.out]; exact HZZ.out)
      rw [HZ.out] at HV
      have HB9 := Lib.hid (HB.out.trans (hx2.mono HB.out.size))
      have K9 := Lib.hid (K4.out.below hx2)
      obtain ⟨Ar, nr, cr, Dr, hevr, hor, hsr, hnr, hvr, hNr⟩ := HV.out
      obtain ⟨sbr, hsbr⟩ : ∃ b, b = decide (z < 0) := ⟨_, rfl⟩
      rw [← hsbr] at hevr
      subst hevr
      have HSBr := Lib.hid hsbr
      clear hsbr
      go_wp2_with ((refine wpList_store_row (o := ⟨none, _, _, _, _, _⟩) rfl 37 _ _ rfl (w.heap.size + 2) #[.bool sbr, .slice Ar nr cr] rfl rfl 37 _ K9.out (by kernel_rfl) rfl (by simp [Value.oneCell']) ?_))
      refine bodyPost_ret (results_c1 rfl _ _ _ (w.heap.size + 2) _ rfl (load24 (K9.out.setRow (ds := #[.bool sbr, .slice Ar nr cr])) rfl)) rfl ?_
      exact ⟨_, rfl, NB.row ⟨Ar, nr, cr, Dr, by rw [HSBr.out], hor, hsr, hnr, hvr, hNr⟩ K9.out _, HB9.out.grown (grown_row x2 (w.heap.size + 2) _) HB9.out.size (fun j hj => by first | (injection hj with hj; omega) | omega | (cases hj; exact Nat.le_refl _))⟩
    · have HLV := Lib.hid (show dv 4294967296 D ≤ dv 4294967296 E by omega)
      have HLE := Lib.hid (show k1 ≤ k2 by
        have := nmz_le HD1.out.2.1 HD2.out.2.1 HT1.out.nmz (by rw [HT1.out.dv, HT2.out.dv]; omega)
        rw [HD1.out.1, HD2.out.1] at this
        exact this)
      have hge : ¬ (scmp (dv 4294967296 D) (dv 4294967296 E)) ≥ 0 := by unfold scmp; rw [if_pos (by omega)]; omega
      obtain ⟨sc, hsc⟩ : ∃ q, scmp (dv 4294967296 D) (dv 4294967296 E) = q := ⟨_, rfl⟩
      rw [hsc] at hge ⊢
      clear hsc hle
      have CF := Lib.hid (fun W (hW : Below w5.heap.size w5 W) => (sub_any A2 k2 c2 (E.take k2) A k1 c (D.take k1) W ((HD2.out.below HBW.out).below hW) ((HD1.out.below HBW.out).below hW) (by omega) HLE.out (by rw [HT2.out.dv, HT1.out.dv]; exact HLV.out)).mono (fun e w1 h => show ∃ g R, e = .returned (.slice (some ⟨g, 0, none⟩) R.length R.length) ∧ Blk w1 g 86 (dc R) ∧ W.heap.size ≤ g ∧ dok 4294967296 R ∧ dv 4294967296 R + dv 4294967296 D = dv 4294967296 E ∧ R.length ≤ max N1 N2 + 1 ∧ Below W.heap.size W w1 from by
        obtain ⟨g, R, h1, h2, h3, h4, h5, h6, h7⟩ := h
        exact ⟨g, R, h1, h2, h3, h4, by rw [HT2.out.dv, HT1.out.dv] at h5; exact h5, by omega, h7⟩))
      go_upto_region 6 with fail
      have hx0 : Below w5.heap.size w5 w5.drew := below_drew (Below.refl _ _)
      refine wp_region_mix 6 (fun w' => Below w5.heap.size w5 w') (by kernel_rfl) (by decide) ?_
      generalize w5.drew = x0 at hx0 ⊢
      refine wpM_take (i := 0) (oi := ⟨some 34, _, _, _, _, _⟩) (v := ?_) rfl (by decide +kernel) (by decide +kernel) (by decide +kernel) (fun _ _ _ h => h) (Or.inl ⟨by rfl, ?_⟩) hx0 ?_
      case refine_2 =>
        intro w' hSw
        have K2_0' := keepcell hSw K2_0
        have K2_1' := keepcell hSw K2_1
        have K3_0' := keepcell hSw K3_0
        have K3_1' := keepcell hSw K3_1
        go_simp
        try (with_reducible rfl)
      try simp only [Act.put, List.setIfInBounds_toArray, List.set_cons_zero, List.set_cons_succ]
      refine wpM_take (i := 1) (oi := ⟨some 35, _, _, _, _, _⟩) (v := ?_) rfl (by decide +kernel) (by decide +kernel) (by decide +kernel) (fun _ _ _ h => h) (Or.inl ⟨by rfl, ?_⟩) hx0 ?_
      case refine_2 =>
        intro w' hSw
        have K2_0' := keepcell hSw K2_0
        have K2_1' := keepcell hSw K2_1
        have K3_0' := keepcell hSw K3_0
        have K3_1' := keepcell hSw K3_1
        go_simp
        try (with_reducible rfl)
      try simp only [Act.put, List.setIfInBounds_toArray, List.set_cons_zero, List.set_cons_succ]
      refine wpM_take (i := 2) (oi := ⟨some 36, _, _, _, _, _⟩) (v := ?_) rfl (by decide +kernel) (by decide +kernel) (by decide +kernel) (fun _ _ _ h => h) (Or.inl ⟨by rfl, ?_⟩) hx0 ?_
      case refine_2 =>
        intro w' hSw
        have K2_0' := keepcell hSw K2_0
        have K2_1' := keepcell hSw K2_1
        have K3_0' := keepcell hSw K3_0
        have K3_1' := keepcell hSw K3_1
        go_simp
        try (with_reducible rfl)
      try simp only [Act.put, List.setIfInBounds_toArray, List.set_cons_zero, List.set_cons_succ]
      refine wpM_take (i := 3) (oi := ⟨some 37, _, _, _, _, _⟩) (v := ?_) rfl (by decide +kernel) (by decide +kernel) (by decide +kernel) (fun _ _ _ h => h) (Or.inl ⟨by rfl, ?_⟩) hx0 ?_
      case refine_2 =>
        intro w' hSw
        have K2_0' := keepcell hSw K2_0
        have K2_1' := keepcell hSw K2_1
        have K3_0' := keepcell hSw K3_0
        have K3_1' := keepcell hSw K3_1
        go_simp
        try (with_reducible rfl)
      try simp only [Act.put, List.setIfInBounds_toArray, List.set_cons_zero, List.set_cons_succ]
      refine wpM_step (i := 4) (o := ⟨some 38, _, _, _, _, _⟩) rfl (by decide +kernel) (by decide) (fun K hK => ?_)
      go_simp
      refine (CF.out x0 hx0).mono ?_
      rintro e x1 ⟨g, R, rfl, hk, hg, hd, hv, hl, hc⟩
      have hx1 : Below w5.heap.size w5 x1 := hx0.trans (hc.mono hx0.size)
      have HKR := Lib.hid hk
      clear hc
      refine hK.out _ _ hx1 ?_
      clear hK K
      try simp only [Act.put, List.setIfInBounds_toArray, List.set_cons_zero, List.set_cons_succ]
      have HOR := Lib.hid (Own.of_blk HKR.out (Nat.le_refl g) hd)
      refine wpM_step (i := 5) (o := ⟨some 39, _, _, _, _, _⟩) rfl (by decide +kernel) (by decide) (fun K hK => ?_)
      go_simp
      refine (signed_any nb (some ⟨g, 0, none⟩) R.length R.length R g x1 HOR.out (Sl.own (Nat.le_refl _) (by omega))).mono ?_
      rintro e x2 ⟨v, rfl, hnb, hc⟩
      have hx2 : Below w5.heap.size w5 x2 := hx1.trans (hc.mono hx1.size)
      have HV := Lib.hid hnb
      clear hc
      refine hK.out _ _ hx2 ?_
      clear hK K
      try simp only [Act.put, List.setIfInBounds_toArray, List.set_cons_zero, List.set_cons_succ]
      refine wpM_done (by decide +kernel) ?_
      simp only [List.drop_succ_cons, List.drop_zero]
      have HGG := Lib.hid (show w.heap.size ≤ g by have h1 := HB.out.size; have h2 := hx0.size; omega)
      replace HV := Lib.hid ((HV.out).mono HGG.out hl)
      have HZ := Lib.hid (show sgn nb (dv 4294967296 R) = z by rw [sgn_sub nb na _ _ _ (fun e => HAB.out e.symm) hv, ← HZ1.out, ← HZ2.out, Int.add_comm]; exact HZZ.out)
      rw [HZ.out] at HV
      have HB9 := Lib.hid (HB.out.trans (hx2.mono HB.out.size))
      have K9 := Lib.hid (K4.out.below hx2)
      obtain ⟨Ar, nr, cr, Dr, hevr, hor, hsr, hnr, hvr, hNr⟩ := HV.out
      obtain ⟨sbr, hsbr⟩ : ∃ b, b = decide (z < 0) := ⟨_, rfl⟩
      rw [← hsbr] at hevr
      subst hevr
      have HSBr := Lib.hid hsbr
      clear hsbr
      go_wp2_with ((refine wpList_store_row (o := ⟨none, _, _, _, _, _⟩) rfl 37 _ _ rfl (w.heap.size + 2) #[.bool sbr, .slice Ar nr cr] rfl rfl 37 _ K9.out (by kernel_rfl) rfl (by simp [Value.oneCell']) ?_))
      refine bodyPost_ret (results_c1 rfl _ _ _ (w.heap.size + 2) _ rfl (load24 (K9.out.setRow (ds := #[.bool sbr, .slice Ar nr cr])) rfl)) rfl ?_
      exact ⟨_, rfl, NB.row ⟨Ar, nr, cr, Dr, by rw [HSBr.out], hor, hsr, hnr, hvr, hNr⟩ K9.out _, HB9.out.grown (grown_row x2 (w.heap.size + 2) _) HB9.out.size (fun j hj => by first | (injection hj with hj; omega) | omega | (cases hj; exact Nat.le_refl _))⟩
end

section
theorem sgn_not (s : Bool) (x : Nat) : sgn (!s) x = - sgn s x := by cases s <;> simp [sgn]
set_option maxRecDepth 100000 in
set_option maxHeartbeats 4000000 in
theorem Sub_any (a b : Value) (z1 z2 : Int) (N1 N2 : Nat) (w : World) (ha : BG w a z1 N1) (hb : BG w b z2 N2) (hN1 : N1 ≤ 50000) (hN2 : N2 ≤ 50000) : Calls Try.prog 74 #[a, b] w fun e w' => ∃ v, e = .returned v ∧ NB w' w.heap.size v (z1 - z2) (max N1 N2 + 1) ∧ Below w.heap.size w w' := by
  obtain ⟨na, A, n, c, D, rfl, hd1, hs1, hn1, hz1⟩ := ha
  obtain ⟨nb, A2, m, c2, E, rfl, hd2, hs2, hn2, hz2⟩ := hb
  obtain ⟨W0, hW0⟩ : ∃ W, W = ((w.alloc (.cells #[.bool na, .slice A n c] 37)).alloc (.cells #[.bool (!nb), .slice A2 m c2] 37)).alloc (.cells #[.bool false, .slice none 0 0] 37) := ⟨_, rfl⟩
  have HB := Lib.hid (show Below w.heap.size w W0 by rw [hW0]; exact (((Below.refl _ w).alloc (Nat.le_refl _) _).alloc (by simp) _).alloc (by simp; omega) _)
  have K2 := Lib.hid (show Blk W0 w.heap.size 37 #[.bool na, .slice A n c] by rw [hW0]; exact ((Blk.new _ _ _).alloc _).alloc _)
  have K3 := Lib.hid (show Blk W0 (w.heap.size + 1) 37 #[.bool (!nb), .slice A2 m c2] by rw [hW0]; exact (Blk.new_ (by simp) rfl : Blk ((w.alloc _).alloc _) _ _ _).alloc _)
  have K4 := Lib.hid (show Blk W0 (w.heap.size + 1 + 1) 37 #[.bool false, .slice none 0 0] by rw [hW0]; exact Blk.new_ (by simp) rfl)
  obtain ⟨z, hz⟩ : ∃ z, z1 - z2 = z := ⟨_, rfl⟩
  rw [hz]
  have CA := Lib.hid (Add_any (.agg #[.bool na, .slice A n c]) (.agg #[.bool (!nb), .slice A2 m c2]) z1 (-z2) N1 N2 W0 ⟨_, _, _, _, D, rfl, hd1.below HB.out, hs1, hn1, hz1⟩ ⟨_, _, _, _, E, rfl, hd2.below HB.out, hs2, hn2, by rw [sgn_not, ← hz2]⟩ hN1 hN2)
  have HZZ := Lib.hid hz
  clear hd1 hd2 hs1 hs2 hz1 hz2 hz
  go_enter Try.func74, Try.ntmps74
  go_wp2_with fail
  rw [← hW0]
  refine CA.out.mono ?_
  rintro e w2 ⟨v, rfl, hv, hb⟩
  rw [show z1 + -z2 = z from by rw [← HZZ.out]; omega] at hv
  have HV := Lib.hid (hv.mono HB.out.size (Nat.le_refl _))
  have HB2 := Lib.hid (HB.out.trans (hb.mono HB.out.size))
  have HK2 := Lib.hid (K4.out.below hb)
  clear hb hv hW0
  obtain ⟨Ar, nr, cr, Dr, hevr, hor, hsr, hnr, hvr, hNr⟩ := HV.out
  obtain ⟨sbr, hsbr⟩ : ∃ b, b = decide (z < 0) := ⟨_, rfl⟩
  rw [← hsbr] at hevr
  subst hevr
  have HSBr := Lib.hid hsbr
  clear hsbr
  go_wp2_with ((refine wpList_store_row (o := ⟨none, _, _, _, _, _⟩) rfl 37 _ _ rfl (w.heap.size + 2) #[.bool sbr, .slice Ar nr cr] rfl rfl 37 _ HK2.out (by kernel_rfl) rfl (by simp [Value.oneCell']) ?_))
  refine bodyPost_ret (results_c1 rfl _ _ _ (w.heap.size + 2) _ rfl (load24 (HK2.out.setRow (ds := #[.bool sbr, .slice Ar nr cr])) rfl)) rfl ?_
  exact ⟨_, rfl, NB.row ⟨Ar, nr, cr, Dr, by rw [HSBr.out], hor, hsr, hnr, hvr, hNr⟩ HK2.out _, HB2.out.grown (grown_row w2 (w.heap.size + 2) _) HB2.out.size (fun j hj => by first | (injection hj with hj; omega) | omega | (cases hj; exact Nat.le_refl _))⟩
end

section
theorem src_dg {w : World} {A : Option Addr} {n c : Nat} {D : List Nat} (h : DG w A n D) : Src Try.prog 1 35 (.slice A n c) n (dcl D) w := by
  by_cases h0 : n = 0
  · subst h0
    have hD : D = [] := List.eq_nil_of_length_eq_zero h.1
    subst hD
    cases A with
    | none => exact Src.ofNil _ Try.underlying35 c
    | some a => exact Src.ofSlice _ Try.underlying35 a 0 c [] rfl (fun j u hu => by simp at hu) (fun u hu => by cases hu)
  · obtain ⟨b, off, rfl, hl, hc⟩ := h.2.2 (by omega)
    refine Src.ofSlice _ Try.underlying35 _ n c (dcl D) (by rw [dcl_len, h.1]; omega) (fun j u hu => ?_) (dcl_one D)
    have hj : j < D.length := by
      have := (List.getElem?_eq_some_iff.1 hu).1
      rwa [dcl_len] at this
    have e : D[j]? = some D[j] := List.getElem?_eq_getElem hj
    have e2 := dcl_get e
    rw [hu] at e2
    injection e2 with e2
    subst e2
    rw [add_plain]
    exact hc j _ e
theorem own_row {w : World} {base n : Nat} {v : Value} {D : List Nat} (h : w.ownsRow base 86 1 v n (dcl D)) (hd : dok 4294967296 D) : ∃ A c, v = .slice A n c ∧ Own w base A n D ∧ Sl A n c := by
  have hl : D.length = n := by have := h.1; rw [dcl_len] at this; omega
  rcases h.2 with ⟨rfl, rfl⟩ | ⟨g, cap, cur, rfl, hg, hh, hn, hcap, hcs, ht⟩
  · exact ⟨none, 0, rfl, ⟨hl, hd, fun h => absurd h (Nat.lt_irrefl 0)⟩, Sl.nil⟩
  · refine ⟨_, _, rfl, ⟨hl, hd, fun _ => ⟨g, 0, cur, rfl, hg, hh, fun j d hj => ?_⟩⟩, Sl.own hn hcap⟩
    have e2 := dcl_get hj
    rw [← ht, List.getElem?_take] at e2
    split at e2
    · rw [Nat.zero_add]; simpa using e2
    · cases e2
set_option maxRecDepth 100000 in
set_option maxHeartbeats 4000000 in
theorem Normal_any (a : Value) (z : Int) (N : Nat) (w : World) (ha : BG w a z N) (hN : N ≤ 10000000) : Calls Try.prog 63 #[a] w fun e w' => ∃ v, e = .returned v ∧ NB w' w.heap.size v z N ∧ Below w.heap.size w w' := by
  obtain ⟨na, A, n, c, D, rfl, hd, hs, hn, hz⟩ := ha
  obtain ⟨i0, hi, hz0, hz1, hz2⟩ := info_parts (show (Try.prog.info? 86).map (fun i => (i.zero, i.size, i.bytes)) = some (some (.int .u32 0), 1, 4) by kernel_rfl)
  obtain ⟨W0, hW0⟩ : ∃ W, W = (w.alloc (.cells #[.bool na, .slice A n c] 37)).alloc (.cells #[.bool false, .slice none 0 0] 37) := ⟨_, rfl⟩
  have HB := Lib.hid (show Below w.heap.size w W0 by rw [hW0]; exact ((Below.refl _ w).alloc (Nat.le_refl _) _).alloc (by simp) _)
  have K2 := Lib.hid (show Blk W0 w.heap.size 37 #[.bool na, .slice A n c] by rw [hW0]; exact (Blk.new _ _ _).alloc _)
  have K4 := Lib.hid (show Blk W0 (w.heap.size + 1) 37 #[.bool false, .slice none 0 0] by rw [hW0]; exact Blk.new_ (by simp) rfl)
  have HDG := Lib.hid hd
  have HL1 := hd.1
  have HZ := Lib.hid hz
  have HSL := Lib.hid hs
  have CT1 := Lib.hid (fun W (hW : Below W0.heap.size W0 W) => trim_any A n c D W ((hd.below HB.out).below hW) hs)
  clear hd hs hz
  have K2_0 : W0.cell? ⟨w.heap.size, 0, none⟩ = some (.bool na) := K2.out.cell 0
  have K2_1 : W0.cell? ⟨w.heap.size, 1, none⟩ = some (.slice A n c) := K2.out.cell 1
  go_enter Try.func63, Try.ntmps63
  go_upto_region 1 with fail
  rw [← hW0]
  clear hW0
  have hy0 : Below W0.heap.size W0 W0.drew := below_drew (Below.refl _ _)
  refine wp_region_mix 7 (fun w' => Below W0.heap.size W0 w') (by kernel_rfl) (by decide) ?_
  generalize W0.drew = y0 at hy0 ⊢
  refine wpM_take (i := 0) (oi := ⟨some 3, _, _, _, _, _⟩) (v := ?_) rfl (by decide +kernel) (by decide +kernel) (by decide +kernel) (fun _ _ _ h => h) (Or.inl ⟨by rfl, ?_⟩) hy0 ?_
  case refine_2 =>
    intro w' hSw
    have K2_0' := keepcell hSw K2_0
    have K2_1' := keepcell hSw K2_1
    go_simp
    try (with_reducible rfl)
  try simp only [Act.put, List.setIfInBounds_toArray, List.set_cons_zero, List.set_cons_succ]
  refine wpM_take (i := 1) (oi := ⟨some 4, _, _, _, _, _⟩) (v := ?_) rfl (by decide +kernel) (by decide +kernel) (by decide +kernel) (fun _ _ _ h => h) (Or.inl ⟨by rfl, ?_⟩) hy0 ?_
  case refine_2 =>
    intro w' hSw
    have K2_0' := keepcell hSw K2_0
    have K2_1' := keepcell hSw K2_1
    go_simp
    try (with_reducible rfl)
  try simp only [Act.put, List.setIfInBounds_toArray, List.set_cons_zero, List.set_cons_succ]
  refine wpM_take (i := 2) (oi := ⟨some 5, _, _, _, _, _⟩) (v := ?_) rfl (by decide +kernel) (by decide +kernel) (by decide +kernel) (fun _ _ _ h => h) (Or.inl ⟨by rfl, ?_⟩) hy0 ?_
  case refine_2 =>
    intro w' hSw
    have K2_0' := keepcell hSw K2_0
    have K2_1' := keepcell hSw K2_1
    go_simp
    try (with_reducible rfl)
  try simp only [Act.put, List.setIfInBounds_toArray, List.set_cons_zero, List.set_cons_succ]
  refine wpM_take (i := 3) (oi := ⟨some 6, _, _, _, _, _⟩) (v := ?_) rfl (by decide +kernel) (by decide +kernel) (by decide +kernel) (fun _ _ _ h => h) (Or.inl ⟨by rfl, ?_⟩) hy0 ?_
  case refine_2 =>
    intro w' hSw
    have K2_0' := keepcell hSw K2_0
    have K2_1' := keepcell hSw K2_1
    go_simp
    try (with_reducible rfl)
  try simp only [Act.put, List.setIfInBounds_toArray, List.set_cons_zero, List.set_cons_succ]
  refine wpM_step (i := 4) (o := ⟨some 7, _, _, _, _, _⟩) rfl (by decide +kernel) (by decide) (fun K hK => ?_)
  go_simp
  refine (CT1.out y0 hy0).mono ?_
  rintro e y_ ⟨k1, rfl, ht1, hy⟩
  replace hy := hy.symm
  subst hy
  have HT1 := Lib.hid ht1
  clear ht1
  refine hK.out _ _ hy0 ?_
  clear hK K
  try simp only [Act.put, List.setIfInBounds_toArray, List.set_cons_zero, List.set_cons_succ]
  have HD1 := Lib.hid (HDG.out.take (show k1 ≤ n by have := HT1.out.1; omega))
  have hk1 : k1 ≤ N := by have := HT1.out.1; omega
  refine wpM_step (i := 5) (o := ⟨some 8, _, _, _, _, _⟩) rfl (by decide +kernel) (by decide) (fun K hK => ?_)
  refine ite_pos (by rfl) ?_
  refine wp_append_src y0 _ _ 35 35 rfl y0.heap.size 86 i0 _ 1 4 Try.underlying35 hi hz0 hz1 hz2 rfl (.slice none 0 0) 0 [] rfl (World.ownsRow_nil _ _ _ _) _ k1 (dcl (D.take k1)) rfl (src_dg ((HD1.out.below HB.out).below hy0)) (by unfold maxLen; omega) (by omega) (Nat.le_refl _) ?_
  intro v1 y1 ho hg hm
  rw [List.nil_append, Nat.zero_add] at ho
  have hc : Below y0.heap.size y0 y1 := (Below.refl _ _).grown hg (Nat.le_refl _) (fun k hk => by simp [Value.ownBlock] at hk)
  have hy1 : Below W0.heap.size W0 y1 := hy0.trans (hc.mono hy0.size)
  obtain ⟨A1, c1, rfl, HO1, HS1⟩ := own_row ho HD1.out.2.1
  replace HO1 := Lib.hid (HO1.mono (show w.heap.size ≤ y0.heap.size by have h1 := HB.out.size; have h2 := hy0.size; omega))
  replace HS1 := Lib.hid HS1
  clear ho hg hm hc
  refine hK.out _ _ hy1 ?_
  clear hK K
  try simp only [Act.put, List.setIfInBounds_toArray, List.set_cons_zero, List.set_cons_succ]
  refine wpM_step (i := 6) (o := ⟨some 9, _, _, _, _, _⟩) rfl (by decide +kernel) (by decide) (fun K hK => ?_)
  go_simp
  refine (signed_any na A1 k1 c1 (D.take k1) w.heap.size y1 HO1.out HS1.out).mono ?_
  rintro e y2 ⟨v, rfl, hnb, hc⟩
  have hy2 : Below W0.heap.size W0 y2 := hy1.trans (hc.mono hy1.size)
  have HV := Lib.hid (hnb.mono (Nat.le_refl _) hk1)
  clear hc
  refine hK.out _ _ hy2 ?_
  clear hK K
  try simp only [Act.put, List.setIfInBounds_toArray, List.set_cons_zero, List.set_cons_succ]
  refine wpM_done (by decide +kernel) ?_
  simp only [List.drop_succ_cons, List.drop_zero]
  have HZ' := Lib.hid (show sgn na (dv 4294967296 (D.take k1)) = z by rw [HT1.out.dv]; exact HZ.out.symm)
  rw [HZ'.out] at HV
  have HB9 := Lib.hid (HB.out.trans (hy2.mono HB.out.size))
  have K9 := Lib.hid (K4.out.below hy2)
  obtain ⟨Ar, nr, cr, Dr, hevr, hor, hsr, hnr, hvr, hNr⟩ := HV.out
  obtain ⟨sbr, hsbr⟩ : ∃ b, b = decide (z < 0) := ⟨_, rfl⟩
  rw [← hsbr] at hevr
  subst hevr
  have HSBr := Lib.hid hsbr
  clear hsbr
  go_wp2_with ((refine wpList_store_row (o := ⟨none, _, _, _, _, _⟩) rfl 37 _ _ rfl (w.heap.size + 1) #[.bool sbr, .slice Ar nr cr] rfl rfl 37 _ K9.out (by kernel_rfl) rfl (by simp [Value.oneCell']) ?_))
  refine bodyPost_ret (results_c1 rfl _ _ _ (w.heap.size + 1) _ rfl (load24 (K9.out.setRow (ds := #[.bool sbr, .slice Ar nr cr])) rfl)) rfl ?_
  exact ⟨_, rfl, NB.row ⟨Ar, nr, cr, Dr, by rw [HSBr.out], hor, hsr, hnr, hvr, hNr⟩ K9.out _, HB9.out.grown (grown_row y2 (w.heap.size + 1) _) HB9.out.size (fun j hj => by first | (injection hj with hj; omega) | omega | (cases hj; exact Nat.le_refl _))⟩
set_option maxRecDepth 100000 in
set_option maxHeartbeats 4000000 in
theorem Neg_any (a : Value) (z : Int) (N : Nat) (w : World) (ha : BG w a z N) (hN : N ≤ 10000000) : Calls Try.prog 44 #[a] w fun e w' => ∃ v, e = .returned v ∧ NB w' w.heap.size v (-z) N ∧ Below w.heap.size w w' := by
  obtain ⟨na, A, n, c, D, rfl, hd, hs, hn, hz⟩ := ha
  obtain ⟨i0, hi, hz0, hz1, hz2⟩ := info_parts (show (Try.prog.info? 86).map (fun i => (i.zero, i.size, i.bytes)) = some (some (.int .u32 0), 1, 4) by kernel_rfl)
  obtain ⟨W0, hW0⟩ : ∃ W, W = (w.alloc (.cells #[.bool (!na), .slice A n c] 37)).alloc (.cells #[.bool false, .slice none 0 0] 37) := ⟨_, rfl⟩
  have HB := Lib.hid (show Below w.heap.size w W0 by rw [hW0]; exact ((Below.refl _ w).alloc (Nat.le_refl _) _).alloc (by simp) _)
  have K2 := Lib.hid (show Blk W0 w.heap.size 37 #[.bool (!na), .slice A n c] by rw [hW0]; exact (Blk.new _ _ _).alloc _)
  have K4 := Lib.hid (show Blk W0 (w.heap.size + 1) 37 #[.bool false, .slice none 0 0] by rw [hW0]; exact Blk.new_ (by simp) rfl)
  have HDG := Lib.hid hd
  have HL1 := hd.1
  have HZ := Lib.hid hz
  have HSL := Lib.hid hs
  have CC := Lib.hid (Normal_any (.agg #[.bool (!na), .slice A n c]) (-z) N W0 ⟨_, _, _, _, D, rfl, hd.below HB.out, hs, hn, by rw [sgn_not, ← hz]⟩ hN)
  clear hd hs hz
  go_enter Try.func44, Try.ntmps44
  go_wp2_with fail
  rw [← hW0]
  refine CC.out.mono ?_
  rintro e w2 ⟨v, rfl, hv, hb⟩
  have HV := Lib.hid (hv.mono HB.out.size (Nat.le_refl _))
  have HB9 := Lib.hid (HB.out.trans (hb.mono HB.out.size))
  have K9 := Lib.hid (K4.out.below hb)
  clear hb hv hW0
  obtain ⟨Ar, nr, cr, Dr, hevr, hor, hsr, hnr, hvr, hNr⟩ := HV.out
  obtain ⟨sbr, hsbr⟩ : ∃ b, b = decide ((-z) < 0) := ⟨_, rfl⟩
  rw [← hsbr] at hevr
  subst hevr
  have HSBr := Lib.hid hsbr
  clear hsbr
  go_wp2_with ((refine wpList_store_row (o := ⟨none, _, _, _, _, _⟩) rfl 37 _ _ rfl (w.heap.size + 1) #[.bool sbr, .slice Ar nr cr] rfl rfl 37 _ K9.out (by kernel_rfl) rfl (by simp [Value.oneCell']) ?_))
  refine bodyPost_ret (results_c1 rfl _ _ _ (w.heap.size + 1) _ rfl (load24 (K9.out.setRow (ds := #[.bool sbr, .slice Ar nr cr])) rfl)) rfl ?_
  exact ⟨_, rfl, NB.row ⟨Ar, nr, cr, Dr, by rw [HSBr.out], hor, hsr, hnr, hvr, hNr⟩ K9.out _, HB9.out.grown (grown_row w2 (w.heap.size + 1) _) HB9.out.size (fun j hj => by first | (injection hj with hj; omega) | omega | (cases hj; exact Nat.le_refl _))⟩
end
end Go.Proofs.Ythfolccofjaknaa
