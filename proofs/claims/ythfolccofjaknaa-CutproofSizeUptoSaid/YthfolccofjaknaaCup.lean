/- A law on arguments of a bounded bulk; the bulk of a proof. -/
import Derived.Test.YthfolccofjaknaaCop
import Derived.Test.YthfolccofjaknaaMA
import Derived.Deep.CondSized
import Derived.JoinedCond
namespace Go.Proofs.Ythfolccofjaknaa
open Go.ChangeShapes Go.WideShapes Go.ChangeAt Go.RowKit Go.ChangeMaps

theorem law_upto {H : Type} {enc : TypeId × Value → H} {C : Checked} {os : Os} {f : FuncId} {fn : Func} {s : ChangeSpec} {B : TypeId} (F : Stop.Interp)
    (own : ownKnob C.prog.godebug = none) (started : os.Started) (noInit : C.prog.inits.idxOf? f = none) (hfn : C.prog.funcs[f]? = some fn)
    (witness : ∃ (w : World) (tape : Tape) (i : Input), w.os = os ∧ (w.forCall tape i).Shaped C.prog ∧ i.vars = [] ∧ Input.okWide C.prog (w.forCall tape i) .any w.heap.size f i ∧
      (Rows.OpenSpec.upto s).pre6 enc C.prog fn [] false (w.forCall tape i).memory i.args ∧ ({} : Assume).holds C.prog (lone (Frame.enter C.prog f i.args .normal) [] (w.forCall tape i)))
    (hl : laidOutB C.prog = true) (hread : (fn.params.toList.all fun t => C.prog.readableRec t && decide (t < C.prog.types.size)) = true)
    (hvars : s.vars = []) (hvt : s.plain.varTypes C.prog = []) (hres : fn.resultTypes = #[B]) (hB : C.prog.underlying B = some .bool)
    (hspec : ∀ ds : List (DataW H), ds.length = fn.params.toList.length → s.fn H ds = { results := [.lit (.bool true)], args := ds })
    (walk : ∀ (W : World) (base : Nat) (args : Array Value) (ds : List (DataW H)) (ps : List MemPlace),
      (∀ (j : Nat) t v, fn.params[j]? = some t → args[j]? = some v → Value.okWide C.prog W .any base t v) →
      DataW.TrodAll enc C.prog W 0 (fun _ => true) true fn.params.toList args.toList ds ps → (∀ x ∈ ps, x.block < W.heap.size) →
      (DataW.weightsEach C.prog fn.params.toList ds).all (· ≤ reachBytes) = true → Rows.uptoSmall H ds = true →
      Calls C.prog f args W fun e W' => e = .returned (.bool true) ∧ Below W.heap.size W W') :
    ReturnsInHanded {} C os f .any ((Rows.OpenSpec.upto s).pre6 enc C.prog fn [] false) (((Rows.OpenSpec.upto s).at F).post enc C.prog fn false true false false) := by
  refine returnsInHanded_of_cond_sized (s := Rows.OpenSpec.upto s) (k := Rows.uptoSmall) rfl own started noInit hfn witness ?_
  intro W base args ds gs before hval hW _ hk hsz _
  have hW' : DataW.Whole enc C.prog fn.params.toList s.vars false W args.toList ds gs before := hW
  have hW0 := hW'
  obtain ⟨p, q, hA, hV, rfl, hfz, hnd⟩ := hW0
  rw [hvars] at hV
  obtain ⟨rfl, rfl⟩ := trodVars_none hV
  have hsz' : (DataW.weightsEach C.prog (fn.params.toList ++ s.plain.varTypes C.prog) (ds ++ [])).all (· ≤ reachBytes) = true := hsz
  rw [hvt] at hsz'
  simp only [List.append_nil] at hsz' hk
  have hlt : ∀ x ∈ p, x.block < W.heap.size := fun x hx => by simpa using hW'.lt x (by simp [hx])
  have hn := trodAll_len hA
  refine (walk W base args ds p hval hA hlt hsz' hk).mono fun e W' ⟨he, hb⟩ => ?_
  subst he
  have es : s.fn H (ds ++ []) = { results := [.lit (.bool true)], args := ds } := by rw [List.append_nil]; exact hspec ds hn
  refine ⟨_, rfl, ?_⟩
  show s.post enc C.prog fn false true false false W args _ W'
  refine ⟨ds, [], p ++ [], [], p, [], hW', ?_, ?_, ?_, hb.frame _, fun h => by cases h⟩
  · rw [es, hres]
    exact trodAll_mk1 (shut_bool hB _)
  · rw [es]
    exact trodAll_below hl hb hread hA hlt
  · rw [es, hvars]
    rfl
theorem bulk_part {H : Type} {d : DataW H} {l : List (DataW H)} (h : d ∈ l) : Rows.uptoBulk d ≤ Rows.uptoBulkAll l := by
  induction l with
  | nil => cases h
  | cons x r ih =>
    simp only [Rows.uptoBulkAll]
    cases List.mem_cons.1 h with
    | inl e => subst e; omega
    | inr e => have := ih e; omega
theorem bulk_lits {H : Type} (k : IntKind) (zs : List Int) : Rows.uptoBulkAll (H := H) (lits k zs) = zs.length := by
  induction zs with
  | nil => rfl
  | cons z zs ih =>
    have e : lits (H := H) k (z :: zs) = .lit (.int k z) :: lits k zs := rfl
    rw [e]
    simp only [Rows.uptoBulkAll, Rows.uptoBulk, ih, List.length_cons]
    omega
theorem bulk_bound {H : Type} {d : DataW H} {l : List (DataW H)} (hk : Rows.uptoSmall H l = true) (h : d ∈ l) : Rows.uptoBulk d ≤ 1048576 := by
  have h1 := of_decide_eq_true hk
  have h2 := bulk_part h
  omega

theorem bulk_pos {H : Type} (d : DataW H) : 1 ≤ Rows.uptoBulk d := by
  cases d with
  | lit l => cases l <;> simp [Rows.uptoBulk]
  | _ => simp [Rows.uptoBulk]
theorem bulk_len {H : Type} : ∀ l : List (DataW H), l.length ≤ Rows.uptoBulkAll l
  | [] => Nat.zero_le _
  | d :: l => by
    simp only [List.length_cons, Rows.uptoBulkAll]
    have h1 := bulk_pos d
    have h2 := bulk_len l
    omega
theorem pf_bulk_sum {H : Type} : ∀ (l : List Pf) (ys : List (DataW H)), l.length = ys.length → (∀ i (h : i < l.length) (h2 : i < ys.length), pfN l[i] ≤ Rows.uptoBulk ys[i]) → (l.map pfN).sum ≤ Rows.uptoBulkAll ys
  | [], _, _, _ => by simp
  | a :: l, [], h, _ => by simp at h
  | a :: l, y :: ys, h, hi => by
    simp only [List.map_cons, List.sum_cons, Rows.uptoBulkAll]
    have h1 := hi 0 (by simp) (by simp)
    have h2 := pf_bulk_sum l ys (by simpa using h) fun i h3 h4 => hi (i + 1) (by simpa using h3) (by simpa using h4)
    simp only [List.getElem_cons_zero] at h1
    omega
open Go.Deep Go.WideElems in
theorem slice_bulk {H : Type} {enc : TypeId × Value → H} {W : World} {t e : TypeId} {A : Option Addr} {n c fuel : Nat} {y : DataW H × List MemPlace} (ht : Try.prog.underlying t = some (.slice e)) (h : DataW.trod enc Try.prog W 0 (fun _ => true) true fuel t [.slice A n c] = some y) : n ≤ Rows.uptoBulk y.1 := by
  rcases DataW.trod_slice ht h with ⟨hcs, _⟩ | ⟨a, len, cap, elems, rest, m, hm, hcs, hy5, _, hl, _, hel, _, _, _⟩
  · injection hcs with hcs
    injection hcs with _ e2 _
    omega
  · injection hcs with hcs
    injection hcs with _ e2 _
    rw [hy5]
    simp only [Rows.uptoBulk]
    have := bulk_len (elems.map (·.1))
    rw [List.length_map] at this
    omega
theorem bulk4 {H : Type} : ∀ (ys : List (DataW H × List MemPlace)) (h : ys.length = 4), Rows.uptoBulk (ys[0]'(by omega)).1 + Rows.uptoBulk (ys[3]'(by omega)).1 + 1 ≤ Rows.uptoBulk (.agg (ys.map (·.1)))
  | [a, b, c, d], _ => by
    simp only [Rows.uptoBulk, List.map_cons, List.map_nil, Rows.uptoBulkAll, List.getElem_cons_zero, List.getElem_cons_succ]
    omega
open Go.Deep Go.WideElems in
set_option maxRecDepth 100000 in
theorem pf_bulk {H : Type} {enc : TypeId × Value → H} {W : World} {N : Nat} (fuel : Nat) : ∀ (x : Pf) (y : DataW H × List MemPlace), PfR W N x → DataW.trod enc Try.prog W 0 (fun _ => true) true fuel 52 x.cells = some y → pfN x ≤ Rows.uptoBulk y.1 := by
  induction fuel using Nat.strongRecOn with
  | ind fuel ih =>
  intro x y hx h
  cases hx with
  | @mk sA sn sc S fA fn fc F b kA kn kc K h1 h2 h3 h4 h5 h7 h6 =>
  obtain ⟨ys, n, hn, hy, hlen, hyl, hg⟩ := DataW.trod_struct Try.underlying52 h
  have hys : ys.length = 4 := by rw [hyl]; rfl
  have hSl : S.length = sn := by
    have := h1.1
    rw [flat_len Sp.cells 3 (fun _ => rfl)] at this
    omega
  have hKl := kids_len h5
  have t0 : DataW.trod enc Try.prog W 0 (fun _ => true) true n 49 [.slice sA sn sc] = some (ys[0]'(by omega)) := by
    rw [← List.getElem?_eq_getElem (show 0 < ys.length by omega), ← hg 0 _ rfl]
    congr 1
  have t3 : DataW.trod enc Try.prog W 0 (fun _ => true) true n 50 [.slice kA kn kc] = some (ys[3]'(by omega)) := by
    rw [← List.getElem?_eq_getElem (show 3 < ys.length by omega), ← hg 3 _ rfl]
    congr 1
  have hb : Rows.uptoBulk (ys[0]'(by omega)).1 + Rows.uptoBulk (ys[3]'(by omega)).1 + 1 ≤ Rows.uptoBulk y.1 := by
    rw [hy]
    exact bulk4 ys hys
  have hs0 := slice_bulk Try.underlying49 t0
  rw [pfN_eq, hSl]
  refine Nat.le_trans ?_ hb
  have key : (K.map pfN).sum ≤ Rows.uptoBulk (ys[3]'(by omega)).1 := by
    rcases DataW.trod_slice Try.underlying50 t3 with ⟨hcs, _⟩ | ⟨a, len, cap, elems, rest, m, hm, hcs, hy5, _, hl, _, hel, hgi, _, _⟩
    · have h0 : K.length = 0 := by
        injection hcs with hcs
        injection hcs with _ e
        omega
      rw [List.eq_nil_of_length_eq_zero h0]
      exact Nat.zero_le _
    · injection hcs with hcs
      injection hcs with e1 e2 e3
      have h9 : (K.map pfN).sum ≤ Rows.uptoBulkAll (elems.map (·.1)) := by
        refine pf_bulk_sum _ _ (by simp; omega) fun i q1 q2 => ?_
        have hil : i < elems.length := by simpa using q2
        have g := hgi i (by omega)
        rw [List.getElem?_eq_getElem hil] at g
        obtain ⟨cs', hc, ht'⟩ := Option.bind_eq_some_iff.1 g
        obtain ⟨_, hcl, hat⟩ := World.cells?_some hc
        rw [Try.cells52] at hcl hat
        obtain ⟨bk, off, eA, _, hcell⟩ := at5 Pf.cells_len h5 (by omega)
        rw [eA] at e1
        injection e1 with e1
        subst e1
        have hcs' : cs' = K[i].cells := by
          obtain ⟨x0, x1, x2, x3, x4, hx⟩ : ∃ x0 x1 x2 x3 x4, K[i].cells = [x0, x1, x2, x3, x4] := by generalize K[i] = p; cases p; exact ⟨_, _, _, _, _, rfl⟩
          obtain ⟨c0, c1, c2, c3, c4⟩ := hcell W (Below.refl _ _) i q1 _ _ _ _ _ hx
          have k : ∀ j, j < 5 → cs'[j]? = W.cell? ⟨bk, off + i * 5 + j, none⟩ := fun j hj => by
            rw [← hat j hj]
            simp only [add_plain]
          rw [hx]
          match cs', hcl, k with
          | [u0, u1, u2, u3, u4], _, k =>
            have k0 := k 0 (by decide)
            have k1 := k 1 (by decide)
            have k2 := k 2 (by decide)
            have k3 := k 3 (by decide)
            have k4 := k 4 (by decide)
            simp only [Nat.add_zero, c0, c1, c2, c3, c4, List.getElem?_cons_zero, List.getElem?_cons_succ, Option.some.injEq] at k0 k1 k2 k3 k4
            subst k0 k1 k2 k3 k4
            rfl
        rw [hcs'] at ht'
        have := ih m (by omega) K[i] elems[i] (h6 _ (List.getElem_mem q1)) ht'
        simpa using this
      rw [hy5]
      simp only [Rows.uptoBulk]
      omega
  omega
open Go.Deep Go.WideElems in
theorem open_pf_bulk {H : Type} {enc : TypeId × Value → H} {W : World} {N : Nat} {x : Pf} {d : DataW H} {p : List MemPlace} (hx : PfR W N x) (h : DataW.Trod enc Try.prog W 0 (fun _ => true) true 52 x.val d p) : pfN x ≤ Rows.uptoBulk d := by
  obtain ⟨fuel, hf⟩ := h
  have e : (x.val).cells.toList = x.cells := by
    cases x
    rfl
  rw [e] at hf
  exact pf_bulk fuel x (d, p) hx hf
end Go.Proofs.Ythfolccofjaknaa
