/-
  Words for memory: cells that lie behind a slice value; slices of bytes, and slices of such, that read as lists.
-/
import Derived.Below
import Derived.Laws.OwnMore
import Derived.Deep.AppendLies
import Derived.Deep.Draws
import Derived.Lib.Hide
import Derived.Maps.AppendAt
import Derived.RegionTactic
import Derived.OwnWalk
import Derived.Laws.IdiomStrings
import Derived.Laws.BytesArg
namespace Go.Proofs.Ytniopekkfnkipaa
open Go.RowKit

theorem add_block (p : Addr) (i : Nat) : (p.add i).block = p.block := by unfold Addr.add; split <;> rfl
theorem add_twice (p : Addr) (i j : Nat) : (p.add i).add j = p.add (i + j) := by
  unfold Addr.add
  rcases Nat.eq_zero_or_pos i with hi | hi
  · simp [hi]
  · rcases Nat.eq_zero_or_pos j with hj | hj
    · simp [hj]
    · rw [if_neg (by omega), if_neg (by omega), if_neg (by omega)]; simp [Nat.add_assoc]

/-- the cells xs lie at the address A, in a block below B -/
structure Lies (w : World) (B : Nat) (A : Option Addr) (xs : List Value) : Prop where
  get : ∀ j u, xs[j]? = some u → ∃ p, A = some p ∧ p.block < B ∧ w.cell? (p.add j) = some u

section
variable {w w' : World} {B B' : Nat} {A : Option Addr} {xs : List Value}
theorem Lies.empty : Lies w B A [] := ⟨fun j u h => by simp at h⟩
theorem Lies.keep (h : Lies w B A xs) (hk : ∀ p : Addr, p.block < B → w'.cell? p = w.cell? p) : Lies w' B A xs :=
  ⟨fun j u hj => by
    obtain ⟨p, e, hb, hc⟩ := h.get j u hj
    exact ⟨p, e, hb, by rw [hk _ (by rw [add_block]; exact hb)]; exact hc⟩⟩
theorem Lies.wider (h : Lies w B A xs) (hB : B ≤ B') : Lies w B' A xs :=
  ⟨fun j u hj => by
    obtain ⟨p, e, hb, hc⟩ := h.get j u hj
    exact ⟨p, e, by omega, hc⟩⟩
theorem Lies.take (h : Lies w B A xs) (k : Nat) : Lies w B A (xs.take k) :=
  ⟨fun j u hj => h.get j u (by
    rw [List.getElem?_take] at hj
    split at hj
    · exact hj
    · cases hj)⟩
/-- 's[k:]', as the model makes it -/
theorem Lies.drop (h : Lies w B A xs) (k c : Nat) (hc : xs.length ≤ c) : Lies w B (if c = k then A else A.map (·.add k)) (xs.drop k) :=
  ⟨fun j u hj => by
    rw [List.getElem?_drop] at hj
    have hlt : k + j < xs.length := by
      rcases Nat.lt_or_ge (k + j) xs.length with g | g
      · exact g
      · rw [List.getElem?_eq_none g] at hj; cases hj
    obtain ⟨p, rfl, hb, hcell⟩ := h.get _ u hj
    rw [if_neg (by omega)]
    exact ⟨p.add k, rfl, by rw [add_block]; exact hb, by rw [add_twice]; exact hcell⟩⟩
theorem Lies.of_row {base : Nat} {e : TypeId} {n c : Nat} (h : w.ownsRow base e 1 (.slice A n c) n xs) : Lies w w.heap.size A xs :=
  ⟨fun j u hj => by
    have hlt : j < xs.length := by
      rcases Nat.lt_or_ge j xs.length with g | g
      · exact g
      · rw [List.getElem?_eq_none g] at hj; cases hj
    have hl := h.1
    obtain ⟨g, cap, hv, _, hg⟩ := h.form (by omega)
    have hA : A = some ⟨g, 0, none⟩ := by injection hv
    subst hA
    exact ⟨_, rfl, hg, h.cells (g := g) rfl j u hj⟩⟩
/-- a block that is written out whole -/
theorem Lies.of_new (w : World) (cs : Array Value) (e : TypeId) : Lies (w.alloc (.cells cs e)) (w.heap.size + 1) (some ⟨w.heap.size, 0, none⟩) cs.toList :=
  ⟨fun j u hj => ⟨_, rfl, by simp, World.news_of_block (heap_alloc_new w _) j u hj⟩⟩
end

/-- a byte's cell -/
def bv (b : UInt8) : Value := .int .u8 (b.toNat : Int)
def bvs (l : List UInt8) : List Value := l.map bv
theorem bvs_length (l : List UInt8) : (bvs l).length = l.length := by simp [bvs]
theorem bvs_append (l m : List UInt8) : bvs (l ++ m) = bvs l ++ bvs m := by simp [bvs]
theorem bvs_one (l : List UInt8) : ∀ u ∈ bvs l, u.oneCell' = true := by
  intro u hu
  obtain ⟨b, _, rfl⟩ := List.mem_map.1 hu
  rfl

/-- '.slice A n c' is a slice of the bytes l -/
structure Bs (w : World) (B : Nat) (A : Option Addr) (n : Nat) (l : List UInt8) : Prop where
  len : l.length = n
  lies : Lies w B A (bvs l)
section
variable {w w' : World} {B B' n : Nat} {A : Option Addr} {l : List UInt8}
theorem Bs.nil_ : Bs w B A 0 [] := ⟨rfl, Lies.empty⟩
theorem Bs.at_ {k : Nat} (h : Bs w B A n l) (hk : k < n) : ∃ p, A = some p ∧ p.block < B ∧ w.cell? (p.add k) = some (.int .u8 ((l.getD k 0).toNat : Int)) := by
  have hl := h.len
  have hx : (bvs l)[k]? = some (.int .u8 ((l.getD k 0).toNat : Int)) := by
    rw [bvs, List.getElem?_map, List.getD_eq_getElem?_getD, List.getElem?_eq_getElem (by omega)]
    rfl
  exact h.lies.get k _ hx
theorem Bs.keep (h : Bs w B A n l) (hk : ∀ p : Addr, p.block < B → w'.cell? p = w.cell? p) : Bs w' B A n l := ⟨h.len, h.lies.keep hk⟩
theorem Bs.wider (h : Bs w B A n l) (hB : B ≤ B') : Bs w B' A n l := ⟨h.len, h.lies.wider hB⟩
theorem Bs.below (h : Bs w B A n l) (hb : Below B w w') : Bs w' B A n l := h.keep fun _ hp => hb.cell hp
theorem Bs.drew (h : Bs w B A n l) : Bs w.drew B A n l := h.keep fun _ _ => rfl
theorem Bs.drewN (h : Bs w B A n l) (k : Nat) : Bs (w.drewN k) B A n l := h.keep fun _ _ => rfl
theorem Bs.alloc (h : Bs w B A n l) (hB : B ≤ w.heap.size) (o : Obj) : Bs (w.alloc o) B A n l := h.keep fun p hp => World.cell?_alloc_lt w o p (by omega)
theorem Bs.setCell (h : Bs w B A n l) {p : Addr} (hB : B ≤ p.block) (u : Value) : Bs (w.setCell p u) B A n l :=
  h.keep fun q hq => World.cell?_setCell_other w p q u (fun e => by subst e; omega)
theorem Bs.drop (h : Bs w B A n l) (k c : Nat) (hc : n ≤ c) : Bs w B (if c = k then A else A.map (·.add k)) (n - k) (l.drop k) :=
  ⟨by rw [List.length_drop, h.len], by rw [bvs, List.map_drop]; exact h.lies.drop k c (by rw [bvs_length, h.len]; exact hc)⟩
theorem Bs.take (h : Bs w B A n l) (k : Nat) (hk : k ≤ n) : Bs w B A k (l.take k) :=
  ⟨by rw [List.length_take, h.len]; exact Nat.min_eq_left hk, by rw [bvs, List.map_take]; exact h.lies.take k⟩
end

/-- 'string(b)' -/
theorem Bs.str {P : Program} {w : World} {B n : Nat} {A : Option Addr} {l : List UInt8} (h : Bs w B A n l) {src dst e : TypeId} (hs : P.underlying src = some (.slice e)) (he : P.underlying e = some (.int .u8)) (hd : P.underlying dst = some .string) (c : Nat) :
    (convert src dst (.slice A n c)).run P w = .ok (.string ⟨l.toArray⟩) w := by
  have hl := h.len
  subst hl
  cases A with
  | none =>
    have : l = [] := by
      cases l with
      | nil => rfl
      | cons b r => obtain ⟨p, hp, _⟩ := h.lies.get 0 _ rfl; cases hp
    subst this
    rw [run_convert_bytes_nil w src e hs he _ c dst hd]
    rfl
  | some a =>
    refine run_convert_bytes_back w src dst e a c l hs he hd fun j hj => ?_
    obtain ⟨p, hp, _, hc⟩ := h.at_ hj
    injection hp with hp
    subst hp
    rw [hc, List.getD_eq_getElem?_getD, List.getElem?_eq_getElem hj]
    rfl

/-- '.slice A n c' is a slice of slices of bytes -/
structure Rs (w : World) (B : Nat) (A : Option Addr) (n : Nat) (L : List (List UInt8)) : Prop where
  len : L.length = n
  row : ∀ k, k < n → ∃ p A' c, A = some p ∧ p.block < B ∧ w.cell? (p.add k) = some (.slice A' (L.getD k []).length c) ∧ (L.getD k []).length ≤ c ∧ c ≤ maxLen ∧ Bs w B A' (L.getD k []).length (L.getD k [])
section
variable {w w' : World} {B B' n : Nat} {A : Option Addr} {L : List (List UInt8)}
theorem Rs.keep (h : Rs w B A n L) (hk : ∀ p : Addr, p.block < B → w'.cell? p = w.cell? p) : Rs w' B A n L :=
  ⟨h.len, fun k hkn => by
    obtain ⟨p, A', c, e, hb, hc, hl, hm, hr⟩ := h.row k hkn
    exact ⟨p, A', c, e, hb, (hk _ (by rw [add_block]; exact hb)).trans hc, hl, hm, hr.keep hk⟩⟩
theorem Rs.nil_ : Rs w B A 0 [] := ⟨rfl, fun k hk => absurd hk (by omega)⟩
theorem Rs.wider (h : Rs w B A n L) (hB : B ≤ B') : Rs w B' A n L :=
  ⟨h.len, fun k hkn => by
    obtain ⟨p, A', c, e, hb, hc, hl, hm, hr⟩ := h.row k hkn
    exact ⟨p, A', c, e, by omega, hc, hl, hm, hr.wider hB⟩⟩
theorem Rs.below (h : Rs w B A n L) (hb : Below B w w') : Rs w' B A n L := h.keep fun _ hp => hb.cell hp
theorem Rs.drewN (h : Rs w B A n L) (k : Nat) : Rs (w.drewN k) B A n L := h.keep fun _ _ => rfl
theorem Rs.drew (h : Rs w B A n L) : Rs w.drew B A n L := h.keep fun _ _ => rfl
theorem Rs.alloc (h : Rs w B A n L) (hB : B ≤ w.heap.size) (o : Obj) : Rs (w.alloc o) B A n L := h.keep fun p hp => World.cell?_alloc_lt w o p (by omega)
/-- one row, in a new block of its own ('f(b)' where f is variadic) -/
theorem Rs.one {A' : Option Addr} {m c : Nat} {l : List UInt8} (h : Bs w w.heap.size A' m l) (hm : m ≤ c) (hc : c ≤ maxLen) (e : TypeId) :
    Rs (w.alloc (.cells #[.slice A' m c] e)) (w.heap.size + 1) (some ⟨w.heap.size, 0, none⟩) 1 [l] := by
  refine ⟨rfl, fun k hk => ?_⟩
  obtain rfl : k = 0 := by omega
  have hl : l.length = m := h.len
  refine ⟨_, A', c, rfl, by simp, ?_, ?_, hc, ?_⟩
  · simp [Addr.add, hl]
  · simpa [hl] using hm
  · simpa [hl] using (h.alloc (Nat.le_refl _) _).wider (Nat.le_succ _)
end

theorem Bs.of_new (w : World) (l : List UInt8) (cs : Array Value) (e : TypeId) (fr : Nat × Nat) (h : cs.toList = bvs l) : Bs (w.alloc (.cells cs e fr)) (w.heap.size + 1) (some ⟨w.heap.size, 0, none⟩) l.length l :=
  ⟨rfl, ⟨fun j u hj => ⟨_, rfl, by simp, World.news_of_block (heap_alloc_new w _) j u (by rw [h]; exact hj)⟩⟩⟩

/-- what is owned, as bytes -/
def Own (w : World) (base : Nat) (v : Value) (l : List UInt8) : Prop := w.ownsRow base 5 1 v l.length (bvs l)
section
variable {w : World} {base : Nat} {v : Value} {l : List UInt8}
theorem Own.form (h : Own w base v l) : ∃ A c, v = .slice A l.length c ∧ l.length ≤ c ∧ c ≤ maxLen ∧ Bs w w.heap.size A l.length l ∧ (∀ k, v.ownBlock = some k → base ≤ k ∧ k < w.heap.size) ∧ (A = none → c = 0) := by
  have hlt := World.ownsRow.lt h
  unfold Own at h
  rcases h.2 with ⟨rfl, hn⟩ | ⟨g, cap, cur, rfl, hb, hg, hnc, hm, _⟩
  · have : l = [] := List.length_eq_zero_iff.1 hn
    subst this
    exact ⟨none, 0, rfl, by simp, by simp [maxLen], Bs.nil_, hlt, fun _ => rfl⟩
  · exact ⟨_, cap, rfl, hnc, hm, ⟨rfl, Lies.of_row h⟩, hlt, fun e => by cases e⟩
theorem Own.nil_ (w : World) (base : Nat) : Own w base (.slice none 0 0) [] := World.ownsRow_nil _ _ _ _
theorem Own.alloc (h : Own w base v l) (o : Obj) : Own (w.alloc o) base v l := World.ownsRow.alloc h o
theorem Own.drew (h : Own w base v l) : Own w.drew base v l := h
theorem Own.drewN (h : Own w base v l) (k : Nat) : Own (w.drewN k) base v l := h
theorem Own.below {w' : World} {B : Nat} (h : Own w base v l) (hb : Below B w w') (hB : w.heap.size ≤ B) : Own w' base v l := by
  refine ⟨h.1, ?_⟩
  rcases h.2 with h2 | ⟨g, cap, cur, hv, hg, hh, r⟩
  · exact .inl h2
  · have hgl : g < w.heap.size := (Array.getElem?_eq_some_iff.1 hh).1
    exact .inr ⟨g, cap, cur, hv, hg, (hb.block g (by omega)).trans hh, r⟩
theorem Own.base_le {base' : Nat} (h : Own w base v l) (hb : base' ≤ base) : Own w base' v l := by
  refine ⟨h.1, ?_⟩
  rcases h.2 with h2 | ⟨g, cap, cur, hv, hg, hh, r⟩
  · exact .inl h2
  · exact .inr ⟨g, cap, cur, hv, by omega, hh, r⟩
end

theorem bcell {B : Nat} {W w1 : World} (hb : Below B W w1) : (∀ b o, b < B → w1.cell? ⟨b, o, none⟩ = W.cell? ⟨b, o, none⟩) ∧ (∀ b o, b < B → w1.frozen? ⟨b, o, none⟩ = W.frozen? ⟨b, o, none⟩) :=
  ⟨fun b o h => hb.cell (p := ⟨b, o, none⟩) h, fun b o h => hb.frozen (p := ⟨b, o, none⟩) h⟩
theorem below_draws {B : Nat} {a w : World} (h : Below B a w) (n : Nat) : Below B a (w.drewN n) := ⟨h.os, h.tape, h.output, h.size, h.block⟩
theorem ret_num {k : IntKind} {a b : Int} (h : a = b) : Ending.returned (.int k a) = .returned (.int k b) := by rw [h]

section
variable {P : Program} (w : World)

/-- 'append(v, src...)': v the call's own, src whatever lies there (nil let in), elements of one cell -/
theorem run_append_src (base : Nat) (t ty e : TypeId) (i : TypeInfo) (z : Value) (bytes : Nat) (ht : P.underlying t = some (.slice e)) (hi : P.info? e = some i) (hz : i.zero = some z)
    (hsize : i.size = 1) (hby : i.bytes = bytes) (hzs : z.cells.size = 1) (v : Value) (n : Nat) (xs : List Value) (hown : w.ownsRow base e 1 v n xs)
    (B : Nat) (A : Option Addr) (m c : Nat) (news : List Value) (hl : news.length = m) (hr : Lies w B A news) (h1 : ∀ u ∈ news, u.oneCell' = true)
    (h63 : n + m ≤ maxLen) (hbytes : (n + m) * bytes ≤ 140737488355328) (hbase : base ≤ w.heap.size) :
    ∃ v' w', (Builtin.append_ #[t, t] ty #[v, .slice A m c]).run P w = .ok v' w' ∧ w'.ownsRow base e 1 v' (n + m) (xs ++ news) ∧ w.grownBy w' v.ownBlock ∧
      (v'.ownBlock = v.ownBlock ∨ v'.ownBlock = some w.heap.size) := by
  cases A with
  | some p =>
    obtain ⟨v', w', hrun, h2, h3, _, h5⟩ := run_append_own_at (P := P) w base t ty e i z 1 bytes ht hi hz hsize hby hzs (by omega) v n xs hown p m c news (by omega)
      (fun j u hj => by obtain ⟨q, hq, _, hc⟩ := hr.get j u hj; injection hq with hq; subst hq; exact hc) h1 h63 hbytes hbase
    exact ⟨v', w', hrun, h2, h3, h5⟩
  | none =>
    have hn : news = [] := by
      cases news with
      | nil => rfl
      | cons u r => obtain ⟨q, hq, _⟩ := hr.get 0 u rfl; cases hq
    subst hn
    subst hl
    refine ⟨v, w, ?_, by simpa using hown, World.grownBy.refl w _, .inl rfl⟩
    rcases hown.2 with ⟨rfl, rfl⟩ | ⟨g, cap, cur, rfl, _, _, hnc, _⟩
    · simp [Builtin.append_, run_underlying ht, sizeOf, typeInfo, hi, Builtin.lenOf, Builtin.firstCells]
    · simp [Builtin.append_, run_underlying ht, sizeOf, typeInfo, hi, Builtin.lenOf, Builtin.firstCells, hnc, storeCells]

theorem wp_append_src {o : Oper} {a : Act} {K : Act → World → Prop} {Q : Exit → Act → World → Prop} (s x : Operand) (t : TypeId)
    (ho : o.op = .call { callee := .builtin .append, args := #[s, x], argTypes := #[t, t] })
    (base : Nat) (e : TypeId) (i : TypeInfo) (z : Value) (bytes : Nat) (ht : P.underlying t = some (.slice e)) (hi : P.info? e = some i) (hz : i.zero = some z)
    (hsize : i.size = 1) (hby : i.bytes = bytes) (hzs : z.cells.size = 1) (v : Value) (n : Nat) (xs : List Value) (hs : a.eval s = v) (hown : w.ownsRow base e 1 v n xs)
    (B : Nat) (A : Option Addr) (m c : Nat) (news : List Value) (hx : a.eval x = .slice A m c) (hl : news.length = m) (hr : Lies w B A news) (h1 : ∀ u ∈ news, u.oneCell' = true)
    (h63 : n + m ≤ maxLen) (hbytes : (n + m) * bytes ≤ 140737488355328) (hbase : base ≤ w.heap.size)
    (h : ∀ v' w', w'.ownsRow base e 1 v' (n + m) (xs ++ news) → w.grownBy w' v.ownBlock → (v'.ownBlock = v.ownBlock ∨ v'.ownBlock = some w.heap.size) → K (a.put o.dst v') w') : o.wp P a w K Q := by
  obtain ⟨v', w', hrun, h2, h3, h4⟩ := run_append_src (P := P) w base t o.type e i z bytes ht hi hz hsize hby hzs v n xs hown B A m c news hl hr h1 h63 hbytes hbase
  unfold Oper.wp execOp
  simp only [ho, resolve, invoke, builtin, Sem.run_bind, Sem.run_pure, Result.andThen_ok, List.map_toArray, List.map_cons, List.map_nil, hs, hx, hrun]
  exact h v' w' h2 h3 h4

theorem wpList_append_src {ops : Array Oper} {rest : List Oper} {o : Oper} {a : Act} {Q : Exit → Act → World → Prop} (hgd : o.guard = none) (s x : Operand) (t : TypeId)
    (ho : o.op = .call { callee := .builtin .append, args := #[s, x], argTypes := #[t, t] })
    (base : Nat) (e : TypeId) (i : TypeInfo) (z : Value) (bytes : Nat) (ht : P.underlying t = some (.slice e)) (hi : P.info? e = some i) (hz : i.zero = some z)
    (hsize : i.size = 1) (hby : i.bytes = bytes) (hzs : z.cells.size = 1) (v : Value) (n : Nat) (xs : List Value) (hs : a.eval s = v) (hown : w.ownsRow base e 1 v n xs)
    (B : Nat) (A : Option Addr) (m c : Nat) (news : List Value) (hx : a.eval x = .slice A m c) (hl : news.length = m) (hr : Lies w B A news) (h1 : ∀ u ∈ news, u.oneCell' = true)
    (h63 : n + m ≤ maxLen) (hbytes : (n + m) * bytes ≤ 140737488355328) (hbase : base ≤ w.heap.size)
    (h : ∀ v' w', w'.ownsRow base e 1 v' (n + m) (xs ++ news) → w.grownBy w' v.ownBlock → (v'.ownBlock = v.ownBlock ∨ v'.ownBlock = some w.heap.size) → wpList P ops Q rest (a.put o.dst v') w') : wpList P ops Q (o :: rest) a w :=
  wpList_plain hgd fun _ hK => wp_append_src w s x t ho base e i z bytes ht hi hz hsize hby hzs v n xs hs hown B A m c news hx hl hr h1 h63 hbytes hbase fun v' w' h2 h3 h4 => hK _ _ (h v' w' h2 h3 h4)

theorem step_append_src {ops : Array Oper} {o : Oper} {a : Act} {K : Act → World → Prop} {Q : Exit → Act → World → Prop} {E : Prop} (hgd : o.guard = none) (s x : Operand) (t : TypeId)
    (ho : o.op = .call { callee := .builtin .append, args := #[s, x], argTypes := #[t, t] })
    (base : Nat) (e : TypeId) (i : TypeInfo) (z : Value) (bytes : Nat) (ht : P.underlying t = some (.slice e)) (hi : P.info? e = some i) (hz : i.zero = some z)
    (hsize : i.size = 1) (hby : i.bytes = bytes) (hzs : z.cells.size = 1) (v : Value) (n : Nat) (xs : List Value) (hs : a.eval s = v) (hown : w.ownsRow base e 1 v n xs)
    (B : Nat) (A : Option Addr) (m c : Nat) (news : List Value) (hx : a.eval x = .slice A m c) (hl : news.length = m) (hr : Lies w B A news) (h1 : ∀ u ∈ news, u.oneCell' = true)
    (h63 : n + m ≤ maxLen) (hbytes : (n + m) * bytes ≤ 140737488355328) (hbase : base ≤ w.heap.size)
    (h : ∀ v' w', w'.ownsRow base e 1 v' (n + m) (xs ++ news) → w.grownBy w' v.ownBlock → (v'.ownBlock = v.ownBlock ∨ v'.ownBlock = some w.heap.size) → K (a.put o.dst v') w') :
    if Region.wanted o (yielded ops a.tmps) = true then Oper.wp P o a w K Q else E := by
  rw [if_pos (by simp [Region.wanted, hgd])]
  exact wp_append_src w s x t ho base e i z bytes ht hi hz hsize hby hzs v n xs hs hown B A m c news hx hl hr h1 h63 hbytes hbase h
end
end Go.Proofs.Ytniopekkfnkipaa
