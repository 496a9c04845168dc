/-
  A map keyed by texts in memory, whose elements are any values: what it holds is a list of things, each with its key and its value, by rising keys.
-/
import Derived.Test.YtebkgcnldbkgeaaChecked
import Derived.Maps.RangeWalk
import Derived.Sort.KeysCollected
import Derived.Sort.MapsRangeIn
import Derived.WalkKit
import Derived.Lib.Hide
namespace Go.Proofs.Ytebkgcnldbkgeaa
open Go.RowKit Go.Maps
set_option linter.unusedVariables false
set_option linter.unusedSimpArgs false

/-- how an element reads: as itself -/
def heldT (v : Value) : Option (DataW Value × List MemPlace) := some (.held v, [])
theorem heldT_inv {v : Value} {y : DataW Value × List MemPlace} (h : heldT v = some y) : y = (.held v, []) := by unfold heldT at h; injection h with h; exact h.symm
abbrev ltT (a b : List UInt8) : Prop := bytesBefore a b = true
theorem ltT_irr (a : List UInt8) : ¬ ltT a a := by unfold ltT; rw [WideAt.bytes_irrefl]; simp
theorem ltT_ne {a b : List UInt8} (h : ltT a b) : a ≠ b := fun e => by subst e; exact ltT_irr _ h

section
variable {α : Type} (kf : α → List UInt8) (vf : α → Value)
def mapT (L : List α) : DataW Value := .map (L.map fun r => (.string (kf r), .held (vf r)))
/-- the thing with a key -/
def getT (L : List α) (k : List UInt8) : Option α := L.find? fun r => decide (kf r = k)
def insT (r : α) : List α → List α
  | [] => [r]
  | y :: l => if bytesBefore (kf r) (kf y) = true then r :: y :: l else y :: insT r l
def delT (k : List UInt8) (L : List α) : List α := L.filter fun r => !decide (kf r = k)
def putT (r : α) (L : List α) : List α := insT kf r (delT kf (kf r) L)
theorem same_str (a b : List UInt8) : (Lit.string a).sameKey (.string b) = decide (a = b) := by
  show (a == b) = decide (a = b)
  rw [Bool.eq_iff_iff]
  simp
theorem insert_mapT (r : α) (L : List α) : DataW.insert (.string (kf r), .held (vf r)) (L.map fun r => (Lit.string (kf r), DataW.held (vf r))) = (insT kf r L).map fun r => (Lit.string (kf r), DataW.held (vf r)) := by
  induction L with
  | nil => rfl
  | cons y l ih =>
    simp only [List.map_cons, DataW.insert, insT]
    by_cases h : bytesBefore (kf r) (kf y) = true
    · rw [if_pos h, if_pos (show (Lit.string (kf r)).before (.string (kf y)) = true from h)]; rfl
    · rw [if_neg h, if_neg (show ¬ (Lit.string (kf r)).before (.string (kf y)) = true from h), ih]; rfl
theorem del_mapT (k : List UInt8) (L : List α) : (mapT kf vf L).del (.string k) = mapT kf vf (delT kf k L) := by
  unfold mapT DataW.del delT
  simp only [List.filter_map]
  rw [show ((fun p : Lit × DataW Value => !p.1.sameKey (.string k)) ∘ fun r => (Lit.string (kf r), DataW.held (vf r))) = fun r => !decide (kf r = k) from by funext r; simp only [Function.comp, same_str]]
theorem put_mapT (r : α) (L : List α) : (mapT kf vf L).put (.string (kf r)) (.held (vf r)) = mapT kf vf (putT kf r L) := by
  have h := del_mapT kf vf (kf r) L
  unfold mapT DataW.del at h
  unfold mapT DataW.put putT
  simp only [DataW.map.injEq] at h ⊢
  rw [h, insert_mapT]
theorem atKey_mapT (k : List UInt8) (L : List α) (z : DataW Value) : (mapT kf vf L).atKey (.string k) z = match getT kf L k with | some r => .held (vf r) | none => z := by
  unfold mapT DataW.atKey getT
  simp only [List.find?_map]
  rw [show ((fun p : Lit × DataW Value => p.1.sameKey (.string k)) ∘ fun r => (Lit.string (kf r), DataW.held (vf r))) = fun r => decide (kf r = k) from by funext r; simp only [Function.comp, same_str]]
  cases L.find? fun r => decide (kf r = k) <;> rfl
theorem size_mapT (L : List α) : Maps.size (mapT kf vf L) = L.length := by simp [mapT, Maps.size]
theorem keys_mapT (L : List α) : strKeys (mapT kf vf L) = L.map kf := by
  show List.map (fun p : Lit × DataW Value => strOf p.1) (L.map fun r => (Lit.string (kf r), DataW.held (vf r))) = _
  rw [List.map_map]
  rfl
theorem getT_key {L : List α} {k : List UInt8} {r : α} (h : getT kf L k = some r) : kf r = k := by simpa using List.find?_some h
theorem getT_mem {L : List α} {k : List UInt8} {r : α} (h : getT kf L k = some r) : r ∈ L := List.mem_of_find?_eq_some h
theorem getT_none {L : List α} {k : List UInt8} (h : getT kf L k = none) : ∀ r ∈ L, kf r ≠ k := fun r hr => by simpa using List.find?_eq_none.1 h r hr
theorem delT_none {L : List α} {k : List UInt8} (h : getT kf L k = none) : delT kf k L = L := List.filter_eq_self.2 fun r hr => by simpa using getT_none kf h r hr
theorem insT_mem (r : α) (L : List α) (x : α) : x ∈ insT kf r L ↔ x = r ∨ x ∈ L := by
  induction L with
  | nil => simp [insT]
  | cons y l ih =>
    unfold insT
    split
    · simp
    · simp only [List.mem_cons, ih]; constructor
      · rintro (h | h | h) <;> simp [h]
      · rintro (h | h | h) <;> simp [h]
theorem putT_mem (r : α) (L : List α) (x : α) : x ∈ putT kf r L ↔ x = r ∨ (x ∈ L ∧ kf x ≠ kf r) := by
  unfold putT delT; rw [insT_mem]; simp
theorem insT_length (r : α) (L : List α) : (insT kf r L).length = L.length + 1 := by
  induction L with
  | nil => rfl
  | cons y l ih => unfold insT; split <;> simp [ih]
def RiseT (L : List α) : Prop := L.Pairwise fun a b => ltT (kf a) (kf b)
theorem insT_rise (r : α) (L : List α) (h : RiseT kf L) (hr : ∀ x ∈ L, kf x ≠ kf r) : RiseT kf (insT kf r L) := by
  induction L with
  | nil => unfold insT RiseT; simp
  | cons y l ih =>
    obtain ⟨h1, h2⟩ := List.pairwise_cons.1 h
    unfold insT
    split
    · rename_i hlt
      exact List.pairwise_cons.2 ⟨fun x hx => by
        rcases List.mem_cons.1 hx with rfl | hx
        · exact hlt
        · exact WideShapes.bytes_trans _ _ _ hlt (h1 x hx), h⟩
    · rename_i hlt
      refine List.pairwise_cons.2 ⟨fun x hx => ?_, ih h2 fun x hx => hr x (by simp [hx])⟩
      rcases (insT_mem kf r l x).1 hx with rfl | hx
      · have := hr y (by simp)
        rcases WideAt.bytes_total _ _ this with h3 | h3
        · exact h3
        · exact absurd h3 hlt
      · exact h1 x hx
theorem delT_rise (k : List UInt8) (L : List α) (h : RiseT kf L) : RiseT kf (delT kf k L) := h.filter _
theorem putT_rise (r : α) (L : List α) (h : RiseT kf L) : RiseT kf (putT kf r L) :=
  insT_rise kf r _ (h.filter _) fun x hx => by simpa [delT] using (List.mem_filter.1 hx).2
theorem getT_of_mem {L : List α} (h : RiseT kf L) {r : α} (hr : r ∈ L) : getT kf L (kf r) = some r := by
  induction L with
  | nil => simp at hr
  | cons y l ih =>
    obtain ⟨h1, h2⟩ := List.pairwise_cons.1 h
    unfold getT
    rcases List.mem_cons.1 hr with rfl | hr
    · simp
    · have := ltT_ne (h1 r hr)
      rw [List.find?_cons]
      rw [show decide (kf y = kf r) = false from by simpa using this]
      exact ih h2 hr
theorem rise_inj {L : List α} (h : RiseT kf L) {a b : α} (ha : a ∈ L) (hb : b ∈ L) (e : kf a = kf b) : a = b := by
  have h1 := getT_of_mem kf h ha
  have h2 := getT_of_mem kf h hb
  rw [e, h2] at h1
  injection h1 with h1
  exact h1.symm

/-- block m of w is a map that holds the things of L -/
structure Mt (P : Program) (kt : TypeId) (w : World) (m : Nat) (L : List α) : Prop where
  own : ∃ n, n ≤ 4294967296 ∧ w.ownsMap P kt heldT m n (mapT kf vf L)
  rise : RiseT kf L
variable {kf vf} {P : Program} {kt : TypeId} {w w' : World} {m : Nat} {L : List α}
theorem Mt.lt (h : Mt kf vf P kt w m L) : m < w.heap.size := let ⟨_, _, h1⟩ := h.own; h1.lt
theorem Mt.kept (h : Mt kf vf P kt w m L) (hb : w'.heap[m]? = w.heap[m]?) : Mt kf vf P kt w' m L := by
  obtain ⟨n, hn, es, clock, h1, r⟩ := h.own
  exact ⟨⟨n, hn, es, clock, hb.trans h1, r⟩, h.rise⟩
theorem Mt.made (w : World) : Mt kf vf P kt (w.alloc (.map #[] 0)) w.heap.size ([] : List α) := ⟨⟨0, by omega, World.ownsMap_made w P kt heldT⟩, List.Pairwise.nil⟩
theorem Mt.look {t e : TypeId} (h : Mt kf vf P kt w m L) (K : Keyed P kt) (ht : P.underlying t = some (.map kt e)) (hk : P.underlying kt = some .string) {z : Value} (hz : (zeroValue e).run P w = .ok z w) (s : ByteArray) (hs : s.size ≤ maxLen) :
    (Instr.lookup t (.map (some m)) (.string s) false).run P w = .ok (match getT kf L s.data.toList with | some r => vf r | none => z) w := by
  obtain ⟨n, _, h1⟩ := h.own
  obtain ⟨v, ps, hr, hv⟩ := h1.lookup K ht hz (zd := .held z) (zp := []) rfl (WideMaps.keyOf_string_mk hk hs)
  have := heldT_inv hv
  rw [atKey_mapT] at this
  rw [hr]
  cases hg : getT kf L s.data.toList with
  | none => rw [hg] at this; simp only [Prod.mk.injEq, DataW.held.injEq] at this; rw [← this.1]
  | some r => rw [hg] at this; simp only [Prod.mk.injEq, DataW.held.injEq] at this; rw [← this.1]
theorem Mt.len {t e : TypeId} (h : Mt kf vf P kt w m L) (ht : P.underlying t = some (.map kt e)) (ty : TypeId) : (Builtin.len_ #[t] ty #[.map (some m)]).run P w = .ok (.int .i64 L.length) w := by
  obtain ⟨n, _, h1⟩ := h.own
  rw [h1.len ht ty, size_mapT]
/-- a store: the map's block alone turns -/
theorem Mt.store {t e : TypeId} (h : Mt kf vf P kt w m L) (K : Keyed P kt) (ht : P.underlying t = some (.map kt e)) (hk : P.underlying kt = some .string) (hl : L.length < 4294967296) (r : α) (s : ByteArray) (hs : s.size ≤ maxLen) (he : kf r = s.data.toList) :
    ∃ w', (Instr.mapUpdate t (.map (some m)) (.string s) (vf r)).run P w = .ok () w' ∧ Mt kf vf P kt w' m (putT kf r L) ∧ w.mapTurned w' m := by
  obtain ⟨n, _, es, clock, hb, F, hs2, hD⟩ := h.own
  have hsz : es.size ≤ L.length := by
    have h1 := congrArg Maps.size hD
    rw [size_mapT] at h1
    rw [h1]; simp [Maps.size, length_sorted]
  have h1 : w.ownsMap P kt heldT m L.length (mapT kf vf L) := ⟨es, clock, hb, F, hsz, hD⟩
  obtain ⟨w', hr, ho, ht'⟩ := h1.store K ht (by unfold maxLen; omega) (WideMaps.keyOf_string_mk hk hs) (val := vf r) (d := .held (vf r)) (ps := []) rfl
  rw [← he, put_mapT] at ho
  exact ⟨w', hr, ⟨⟨_, by omega, ho⟩, putT_rise kf r L h.rise⟩, ht'⟩
end
theorem has_mapT {α : Type} (kf : α → List UInt8) (vf : α → Value) (k : List UInt8) (L : List α) : has (mapT kf vf L) (.string k) = (getT kf L k).isSome := by
  cases h : getT kf L k with
  | none => exact has_false_of_atKey fun z => by rw [atKey_mapT, h]
  | some r => exact has_true_of_atKey (y := .held (vf r)) fun z => by rw [atKey_mapT, h]
/-- a range's step over a map of things -/
theorem wpList_next_Mt {α : Type} {kf : α → List UInt8} {vf : α → Value} {P : Program} (w : World) {ops : Array Oper} {rest : List Oper} {o : Oper} {a : Act} {Q : Exit → Act → World → Prop} (hg : o.guard = none) (it : Operand) (hop : o.op = Op.next it false)
    (kt : TypeId) (K : Keyed P kt) (hk : P.underlying kt = some .string) (b r n : Nat) (L : List α) (left : Lit → Bool) (cnt : Nat) (hit : a.eval it = .pointer (some ⟨r, 0, none⟩)) (h : w.ranges P kt heldT b r n (mapT kf vf L) left cnt)
    (hDone : (∀ kl, left kl = false) → wpList P ops Q rest (a.put o.dst (.tuple #[.bool false])) w)
    (hMore : ∀ (x : α) (w' : World) (cnt' : Nat), x ∈ L → getT kf L (kf x) = some x → left (.string (kf x)) = true → w'.ranges P kt heldT b r n (mapT kf vf L) (fun z => left z && !z.sameKey (.string (kf x))) cnt' → cnt' < cnt → w.grownBy w' (some r) → w'.heap.size = w.heap.size →
      (Instr.entry (.pointer (some ⟨r, 0, none⟩))).run P w' = .ok (.tuple #[encStr (kf x), vf x]) w' → wpList P ops Q rest (a.put o.dst (.tuple #[.bool true, encStr (kf x), vf x])) w') :
    wpList P ops Q (o :: rest) a w := by
  refine wpList_plain hg fun K' hK' => ?_
  unfold Oper.wp
  rcases h.next K o.type with ⟨h0, hl, hrun⟩ | ⟨key, v, kl, y, w', cnt', hkey, hlk, hv, hat, hrun, hrg, hlt, hgr, hsz, hen⟩
  · simp [execOp, hop, hit, hrun, Result.andThen]
    exact hK' _ _ (hDone hl)
  · obtain ⟨x, rfl, rfl, _⟩ := Maps.keyOf_str hk hkey
    have hy := heldT_inv hv
    subst hy
    have h1 := hat .nil
    rw [atKey_mapT] at h1
    cases hgx : getT kf L x with
    | none => rw [hgx] at h1; cases h1
    | some t =>
      rw [hgx] at h1
      simp only [DataW.held.injEq] at h1
      have hkx := getT_key kf hgx
      subst h1
      subst hkx
      simp [execOp, hop, hit, hrun, Result.andThen]
      exact hK' _ _ (hMore t w' cnt' (getT_mem kf hgx) hgx hlk hrg hlt hgr hsz hen)
end Go.Proofs.Ytebkgcnldbkgeaa
