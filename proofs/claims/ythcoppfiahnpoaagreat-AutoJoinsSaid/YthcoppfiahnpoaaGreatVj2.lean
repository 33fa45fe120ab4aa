/- AutoJoins holds of the program as it landed: Both and Either give, for any two machines of at most 30 states and 8 letters, what the product of the two gives, made small. -/
import Derived.Laws.OwnMore
import Derived.ProofKit
import Derived.SizedLaws
import Derived.Deep.Slices
import Derived.Test.YthcoppfiahnpoaaGreatVj1
set_option maxRecDepth 100000
namespace Go.Proofs.YthcoppfiahnpoaaGreat
open Go Sym
abbrev ints (l : List Int) : List Value:=l.map (Value.int .i64)
abbrev bools (l : List Bool) : List Value:=l.map Value.bool
structure Ow where
 v : Value
 e : Nat
 s : Nat
 n : Nat
 xs : List Value
def Ow.ok (base : Nat) (w : World) (o : Ow) : Prop:=w.ownsRow base o.e o.s o.v o.n o.xs
def apart (a b : Value) : Prop:=a.ownBlock = none ∨ a.ownBlock ≠ b.ownBlock
theorem apart.symm {a b : Value} (h : apart a b) : apart b a:=by
 unfold apart at *
 rcases h with h | h
 ·cases hb : b.ownBlock with
  | none=>exact .inl rfl
  | some k=>exact .inr (by rw [h]; simp)
 ·exact .inr fun e=>h e.symm
def Rows (base : Nat) (w : World) (l : List Ow) : Prop:=(∀ (i : Nat) (o : Ow),l[i]? = some o → o.ok base w) ∧ ∀ (i j : Nat) (a b : Ow),i ≠ j → l[i]? = some a → l[j]? = some b → apart a.v b.v
abbrev oI (v : Value) (l : List Int) : Ow:=⟨v,3,1,l.length,ints l⟩
abbrev oB (v : Value) (l : List Bool) : Ow:=⟨v,4,1,l.length,bools l⟩
section
variable {base : Nat} {w w' : World} {l : List Ow}
theorem Rows.nil (base : Nat) (w : World) : Rows base w []:=⟨fun i o h=>by simp at h,fun i j a b _ h=>by simp at h⟩
theorem Rows.turn (h : Rows base w l) {i : Nat} {o o' : Ow} (hi : l[i]? = some o) (hg : w.grownBy w' o.v.ownBlock) (ho : o'.ok base w') (hat : o'.v.ownBlock = o.v.ownBlock ∨ ∃ k,o'.v.ownBlock = some k ∧ w.heap.size ≤ k) : Rows base w' (l.set i o'):=by
 obtain ⟨h1,h2⟩:=h
 have hil:=(List.getElem?_eq_some_iff.1 hi).1
 have new : ∀ (j : Nat) (b : Ow),i ≠ j → l[j]? = some b → apart o'.v b.v:=fun j b hij hb=>by
  rcases hat with e | ⟨k,e,hk⟩
  ·have:=h2 i j o b hij hi hb
   unfold apart at *
   rw [e]; exact this
  ·refine .inr fun e2=>?_
   have:=((h1 j b hb).lt k (by rw [← e2,e])).2
   omega
 refine ⟨fun k a ha=>?_,fun p q a b hpq ha hb=>?_⟩
 ·rw [List.getElem?_set] at ha
  split at ha
  ·rename_i e
   subst e
   simp only [Option.some.injEq] at ha
   rw [← ha]; exact ho
  ·rename_i e
   exact (h1 k a ha).kept hg (h2 k i a o (fun e2=>e e2.symm) ha hi)
 ·rw [List.getElem?_set] at ha hb
  split at ha
  ·rename_i e
   subst e
   simp only [Option.some.injEq] at ha
   rw [if_neg hpq] at hb
   rw [← ha]; exact new q b hpq hb
  ·rename_i e
   split at hb
   ·rename_i e2
    subst e2
    simp only [Option.some.injEq] at hb
    rw [← hb]; exact (new p a e ha).symm
   ·exact h2 p q a b hpq ha hb
theorem Rows.kept (h : Rows base w l) (hg : w.grownBy w' none) : Rows base w' l:=⟨fun i o ho=>(h.1 i o ho).kept hg (by cases o.v.ownBlock <;> simp),h.2⟩
theorem Rows.keptLow (h : Rows base w l) {row : Option Nat} (hg : w.grownBy w' row) (hr : ∀ k,row = some k → k < base) : Rows base w' l:=⟨fun i o ho=>(h.1 i o ho).kept hg (by
 cases hb : o.v.ownBlock with
 | none=>exact .inl rfl
 | some k=>
   refine .inr fun e=>?_
   have h1:=hr k e.symm
   have h2:=((h.1 i o ho).lt k hb).1
   omega),h.2⟩
theorem grown_below (h : RowKit.Below w.heap.size w w') : w.grownBy w' none:=⟨h.os,h.tape,h.output,h.size,fun q hq _=>h.block q hq⟩
theorem Rows.below (h : Rows base w l) (hb : RowKit.Below w.heap.size w w') : Rows base w' l:=h.kept (grown_below hb)
theorem Rows.new (h : Rows base w l) (hg : w.grownBy w' none) {o : Ow} (ho : o.ok base w') (hat : o.v.ownBlock = none ∨ ∃ k,o.v.ownBlock = some k ∧ w.heap.size ≤ k) : Rows base w' (o :: l):=by
 have hk:=h.kept hg
 have new : ∀ (j : Nat) (b : Ow),l[j]? = some b → apart o.v b.v:=fun j b hb=>by
  rcases hat with e | ⟨k,e,hk⟩
  ·exact .inl e
  ·refine .inr fun e2=>?_
   have:=((h.1 j b hb).lt k (by rw [← e2,e])).2
   omega
 refine ⟨fun i a ha=>?_,fun i j a b hij ha hb=>?_⟩
 ·cases i with
  | zero=>simp only [List.getElem?_cons_zero,Option.some.injEq] at ha; rw [← ha]; exact ho
  | succ i=>exact hk.1 i a (by simpa using ha)
 ·cases i with
  | zero=>
    cases j with
    | zero=>exact (hij rfl).elim
    | succ j=>
      simp only [List.getElem?_cons_zero,Option.some.injEq] at ha
      rw [← ha]; exact new j b (by simpa using hb)
  | succ i=>
    cases j with
    | zero=>
      simp only [List.getElem?_cons_zero,Option.some.injEq] at hb
      rw [← hb]; exact (new i a (by simpa using ha)).symm
    | succ j=>exact hk.2 i j a b (fun e=>hij (by rw [e])) (by simpa using ha) (by simpa using hb)
theorem Rows.alloc (h : Rows base w l) (o : Obj) : Rows base (w.alloc o) l:=h.kept (World.grownBy_alloc w o none)
theorem Rows.erase (h : Rows base w l) (i : Nat) : Rows base w (l.eraseIdx i):=by
 refine ⟨fun k o ho=>?_,fun p q a b hpq ha hb=>?_⟩
 ·rw [List.getElem?_eraseIdx] at ho
  split at ho
  ·exact h.1 _ _ ho
  ·exact h.1 _ _ ho
 ·rw [List.getElem?_eraseIdx] at ha hb
  split at ha <;> split at hb
  ·exact h.2 _ _ _ _ hpq ha hb
  ·exact h.2 _ _ _ _ (by omega) ha hb
  ·exact h.2 _ _ _ _ (by omega) ha hb
  ·exact h.2 _ _ _ _ (by omega) ha hb
theorem Rows.tail {o : Ow} (h : Rows base w (o :: l)) : Rows base w l:=h.erase 0
theorem Rows.cons2 {a b : Ow} (h : Rows base w (a :: b :: l)) : Rows base w (b :: a :: l):=by
 let f : Nat → Nat:=fun i=>match i with | 0=>1 | 1=>0 | n + 2=>n + 2
 have hf : ∀ i o,(b :: a :: l)[i]? = some o → (a :: b :: l)[f i]? = some o:=fun i o ho=>by
  match i,ho with
  | 0,ho=>exact ho
  | 1,ho=>exact ho
  | n + 2,ho=>exact ho
 have inj : ∀ i j,i ≠ j → f i ≠ f j:=fun i j hij=>by
  match i,j,hij with
  | 0,0,h=>exact (h rfl).elim
  | 0,1,_=>simp [f]
  | 0,n + 2,_=>simp [f]
  | 1,0,_=>simp [f]
  | 1,1,h=>exact (h rfl).elim
  | 1,n + 2,_=>simp [f]
  | m + 2,0,_=>simp [f]
  | m + 2,1,_=>simp [f]
  | m + 2,n + 2,h=>simp only [f]; omega
 exact ⟨fun i o ho=>h.1 (f i) o (hf i o ho),fun i j x y hij hx hy=>h.2 (f i) (f j) x y (inj i j hij) (hf i x hx) (hf j y hy)⟩
theorem Rows.mono {base' : Nat} (h : Rows base w l) (hb : base' ≤ base) : Rows base' w l:=⟨fun i o ho=>own_mono (h.1 i o ho) hb,h.2⟩
theorem Rows.lt (h : Rows base w l) {i : Nat} {o : Ow} (hi : l[i]? = some o) {k : Nat} (hk : o.v.ownBlock = some k) : base ≤ k ∧ k < w.heap.size:=(h.1 i o hi).lt k hk
theorem Rows.low (h : Rows base w l) {i : Nat} {o : Ow} (hi : l[i]? = some o) {w0 : World} (hB : RowKit.Below base w0 w) (hs : base ≤ w.heap.size) (hg : w.grownBy w' o.v.ownBlock) : RowKit.Below base w0 w':=
 ⟨hg.os.trans hB.os,hg.tape.trans hB.tape,hg.output.trans hB.output,Nat.le_trans hB.size hg.size,fun k hk=>by
  refine (hg.block k (Nat.lt_of_lt_of_le hk hs) (fun e=>?_)).trans (hB.block k hk)
  have:=(h.lt hi e.symm).1
  omega⟩
theorem Rows.cellI (h : Rows base w l) {i g n c : Nat} {xs : List Int} (hi : l[i]? = some (oI (Vs g n c) xs)) {j : Nat} (hj : j < xs.length) : w.cell? ⟨g,0 + j,none⟩ = some (Vi xs[j]):=by
 have:=h.1 i _ hi
 have hn : n = xs.length:=by
  rcases this.2 with ⟨e,_⟩ | ⟨_,_,_,e,_⟩
  ·cases e
  ·simp only [Value.slice.injEq] at e; exact e.2.1
 subst hn
 rw [Nat.zero_add,World.ownsRow.cellAt this j (by simpa using hj)]
 simp [hj]
theorem Rows.len (h : Rows base w l) {i g n n' c e s : Nat} {xs : List Value} (hi : l[i]? = some ⟨Vs g n c,e,s,n',xs⟩) : n = n':=by
 rcases (h.1 i _ hi).2 with ⟨e,_⟩ | ⟨_,_,_,e,_⟩
 ·cases e
 ·simp only [Value.slice.injEq] at e; exact e.2.1
theorem Rows.freeI (h : Rows base w l) {i g n n' c e s : Nat} {xs : List Value} (hi : l[i]? = some ⟨Vs g n c,e,s,n',xs⟩) (j : Nat) : w.frozen? ⟨g,0 + j,none⟩ = false:=by
 obtain rfl:=h.len hi
 rw [Nat.zero_add]; exact World.ownsRow.frozenAt (h.1 i _ hi) j
theorem Rows.storeI (h : Rows base w l) {i g n c : Nat} {xs : List Int} (hi : l[i]? = some (oI (Vs g n c) xs)) (j : Nat) (x : Int) :
  Rows base (w.setCell ⟨g,0 + j,none⟩ (Vi x)) (l.set i (oI (Vs g n c) (xs.set j x))) ∧ w.grownBy (w.setCell ⟨g,0 + j,none⟩ (Vi x)) (some g):=by
 obtain rfl:=h.len hi
 rw [Nat.zero_add]
 obtain ⟨h1,h2⟩:=World.ownsRow.stored (h.1 i _ hi) j (Vi x)
 refine ⟨h.turn hi h2 ?_ (.inl rfl),h2⟩
 show World.ownsRow _ base _ 1 _ (xs.set j x).length (ints (xs.set j x))
 rw [List.length_set,show ints (xs.set j x) = (ints xs).set j (Vi x) from List.map_set ..]
 exact h1
theorem Rows.makeI (h : Rows base w l) (hb : base ≤ w.heap.size) {n : Nat} (hn : n ≤ 9223372036854775807) : Rows base (w.alloc (.cells (madeCells #[Vi 0] n) 3)) (oI (Vs w.heap.size n n) (List.replicate n 0) :: l):=by
 refine h.new (World.grownBy_alloc w _ none) ?_ (.inr ⟨_,rfl,Nat.le_refl _⟩)
 have h1:=World.ownsRow_lit (base:=base) (e:=3) (size:=1) w (madeCells #[Vi 0] n) n hb (by unfold maxLen; exact hn) (by simp [madeCells])
 rw [toList_madeCells_one] at h1
 simpa [ints,Ow.ok] using h1
theorem Rows.litI (h : Rows base w l) (hb : base ≤ w.heap.size) : Rows base (w.alloc (.cells #[] 3)) (oI (Vs w.heap.size 0 0) [] :: l):=
 h.new (World.grownBy_alloc w _ none) (own_lit w base 3 hb) (.inr ⟨_,rfl,Nat.le_refl _⟩)
theorem Rows.appI {w2 : World} (h : Rows base w l) {i : Nat} {v v' : Value} {xs : List Int} {x : Int} (hi : l[i]? = some (oI v xs)) (hown : w2.ownsRow base 3 1 v' (xs.length + 1) (ints xs ++ [Vi x])) (hgr : w.grownBy w2 v.ownBlock) (hat : v'.ownBlock = v.ownBlock ∨ v'.ownBlock = some w.heap.size) :
  Rows base w2 (l.set i (oI v' (xs ++ [x]))):=by
 refine h.turn hi hgr ?_ (hat.imp id fun e=>⟨_,e,Nat.le_refl _⟩)
 show World.ownsRow _ base _ 1 _ (xs ++ [x]).length (ints (xs ++ [x]))
 rw [List.length_append,show ints (xs ++ [x]) = ints xs ++ [Vi x] by simp]
 exact hown
theorem Rows.slI (h : Rows base w l) {i : Nat} {v : Value} {xs : List Int} (hi : l[i]? = some (oI v xs)) (hx : ∀ x ∈ xs,I64 x) : Sl w v xs PInt ∧ Ok v:=
 sl_own (P:=PInt) (h.1 i _ hi) rfl fun j hj=>⟨_,by simp [hj],rfl,hx _ (List.getElem_mem hj)⟩
theorem Rows.form (h : Rows base w l) {i : Nat} {v : Value} {e s n : Nat} {xs : List Value} (hi : l[i]? = some ⟨v,e,s,n,xs⟩) : v = .slice none 0 0 ∧ n = 0 ∨ ∃ g c,v = Vs g n c ∧ n ≤ c ∧ c ≤ 9223372036854775807:=by
 rcases (h.1 i _ hi).2 with ⟨e,h0⟩ | ⟨g,cap,cur,e,_,hg,h1,h2,_⟩
 ·exact .inl ⟨e,h0⟩
 ·exact .inr ⟨g,cap,e,h1,h2⟩
theorem Rows.cellB (h : Rows base w l) {i g n c : Nat} {xs : List Bool} (hi : l[i]? = some (oB (Vs g n c) xs)) {j : Nat} (hj : j < xs.length) : w.cell? ⟨g,0 + j,none⟩ = some (.bool xs[j]):=by
 have:=h.1 i _ hi
 have hn : n = xs.length:=by
  rcases this.2 with ⟨e,_⟩ | ⟨_,_,_,e,_⟩
  ·cases e
  ·simp only [Value.slice.injEq] at e; exact e.2.1
 subst hn
 rw [Nat.zero_add,World.ownsRow.cellAt this j (by simpa using hj)]
 simp [hj]
theorem Rows.storeB (h : Rows base w l) {i g n c : Nat} {xs : List Bool} (hi : l[i]? = some (oB (Vs g n c) xs)) (j : Nat) (x : Bool) :
  Rows base (w.setCell ⟨g,0 + j,none⟩ (.bool x)) (l.set i (oB (Vs g n c) (xs.set j x))) ∧ w.grownBy (w.setCell ⟨g,0 + j,none⟩ (.bool x)) (some g):=by
 obtain rfl:=h.len hi
 rw [Nat.zero_add]
 obtain ⟨h1,h2⟩:=World.ownsRow.stored (h.1 i _ hi) j (.bool x)
 refine ⟨h.turn hi h2 ?_ (.inl rfl),h2⟩
 show World.ownsRow _ base _ 1 _ (xs.set j x).length (bools (xs.set j x))
 rw [List.length_set,show bools (xs.set j x) = (bools xs).set j (.bool x) from List.map_set ..]
 exact h1
theorem Rows.slB (h : Rows base w l) {i : Nat} {v : Value} {xs : List Bool} (hi : l[i]? = some (oB v xs)) : Sl w v xs PBool ∧ Ok v:=
 sl_own (P:=PBool) (h.1 i _ hi) rfl fun j hj=>⟨_,by simp [hj],rfl⟩
end
theorem Ma.cell {w : World} {L s : Int} {next : List (List Int)} {fin : List Bool} {vn ve : Value} (hm : Ma w L s next fin vn ve) {i : Nat} (hi : i < next.length) :
  ∃ b o cn,vn = .slice (some ⟨b,o,none⟩) next.length cn ∧ ∃ ar cr,w.cell? ⟨b,o + i,none⟩ = some (.slice ar next[i].length cr) ∧ (∀ c (hc : c < next[i].length),∃ br orr,ar = some ⟨br,orr,none⟩ ∧ w.cell? ⟨br,orr + c,none⟩ = some (Vi next[i][c])):=by
 obtain ⟨an,bn,on,cn,rfl,m1,m2,m3,m4⟩:=hm.n
 obtain rfl:=m1 (by omega)
 obtain ⟨u,hu,hpu,-⟩:=m4 i hi
 obtain ⟨au,bu,ou,cu,rfl,u1,u2,u3,u4⟩:=hpu
 refine ⟨bn,on,cn,rfl,au,cu,hu,fun c hc=>?_⟩
 obtain rfl:=u1 (by omega)
 obtain ⟨y,hy,rfl,-⟩:=u4 c hc
 exact ⟨bu,ou,rfl,hy⟩
theorem tgt_get {next : List (List Int)} {i c : Nat} (hi : i < next.length) (hc : c < next[i].length) : tgtM next i c = next[i][c]:=by
 simp [tgtM,List.getD_eq_getElem?_getD,hi,hc]
theorem Ma.end {w : World} {L s : Int} {next : List (List Int)} {fin : List Bool} {vn ve : Value} (hm : Ma w L s next fin vn ve) {i : Nat} (hi : i < fin.length) :
  ∃ b o ce,ve = .slice (some ⟨b,o,none⟩) fin.length ce ∧ w.cell? ⟨b,o + i,none⟩ = some (.bool fin[i]):=by
 obtain ⟨ae,be,oe,ce,rfl,hea,he1,he2,he3⟩:=hm.e
 obtain rfl:=hea (by omega)
 obtain ⟨y,hy,rfl⟩:=he3 i hi
 exact ⟨be,oe,ce,rfl,hy⟩
end Go.Proofs.YthcoppfiahnpoaaGreat
namespace Go.Proofs.YthcoppfiahnpoaaGreat
open Go Sym
open Go.ChangeShapes Go.WideShapes Go.ChangeAt
section
variable {H : Type} {enc : TypeId × Value → H} {P : Program} {w : World} {fuel : Nat} {x : DataW H × List MemPlace} {v : Value} {t e : TypeId}
theorem cell_spot {a : Addr} {u : Value} (h : w.cell? a = some u) : a.spot = none:=by
 unfold World.cell? at h
 split at h
 ·split at h
  ·cases h
  ·rename_i hs; simpa using hs
 ·cases h
theorem add_spot {a : Addr} (h : a.spot = none) (c : Nat) : a.add c = ⟨a.block,a.off + c,none⟩:=by
 obtain ⟨b,o,s⟩:=a
 simp only at h
 subst h
 unfold Addr.add
 split
 ·rename_i h0; subst h0; rfl
 ·rfl
theorem i64_wf {n : Int} (h : (Lit.int .i64 n).wf = true) : I64 n:=by
 simp [Lit.wf,IntKind.min,IntKind.max,IntKind.signed,IntKind.bits] at h
 exact ⟨by omega,by omega⟩
theorem list_of {α : Type} {p : Nat → α → Prop} : ∀ n : Nat,(∀ i,i < n → ∃ a,p i a) → ∃ l : List α,l.length = n ∧ ∀ i (h : i < l.length),p i l[i]
 | 0,_=>⟨[],rfl,fun i hi=>by simp at hi⟩
 | k + 1,hp=>by
   obtain ⟨l,l1,l2⟩:=list_of k (fun i hi=>hp i (by omega))
   obtain ⟨b,hb⟩:=hp k (Nat.lt_succ_self _)
   refine ⟨l ++ [b],by simp [l1],fun i hi=>?_⟩
   rcases Nat.lt_or_ge i l.length with h1 | h1
   ·rw [List.getElem_append_left h1]; exact l2 i h1
   ·have : i = l.length:=by simp at hi; omega
    subst this
    rw [List.getElem_concat_length rfl,l1]; exact hb
def Light (P : Program) (t : TypeId) (d : DataW H) : Prop:=∀ n ∈ d.weights P t,n ≤ 140737488351232
theorem open_sl {α : Type} {Pr : World → Value → α → Prop} (ht : P.underlying t = some (.slice e)) (hc : P.cellsOf e = 1) (h : DataW.trod enc P w 0 (fun _=>true) true fuel t [v] = some x) (hl : Light P t x.1)
  (hel : ∀ (n : Nat) (u : Value) (y : DataW H × List MemPlace),DataW.trod enc P w 0 (fun _=>true) true n e [u] = some y → Light P e y.1 → ∃ a : α,Pr w u a) :
  ∃ l : List α,Sl w v l Pr ∧ Ok v ∧ l.length * P.bytesOf e ≤ 140737488351232:=by
 rcases Go.Deep.open_slice1 ht hc h with ⟨hcs,hx⟩ | ⟨a,len,cap,m,n,V,D,Pl,hcs,hb,hlc,hm,hmm,hx,hel2⟩
 ·obtain rfl : v = .slice none 0 0:=by simpa using hcs
  exact ⟨[],⟨none,0,0,0,rfl,fun h=>by simp at h,Nat.le_refl _,by decide,fun i hi=>by simp at hi⟩,.inl (.inl rfl),by simp⟩
 ·obtain rfl : v = .slice (some a) len cap:=by simpa using hcs
  simp only [if_true] at hmm
  subst hmm
  subst hx
  have hw : (len + (m - len)) * P.bytesOf e ≤ 140737488351232:=by
   refine hl _ ?_
   simp [DataW.weights,ht]
  have hlight : ∀ i,i < len → Light P e (D i):=fun i hi n hn=>by
   refine hl n ?_
   simp only [DataW.weights,ht,List.mem_cons,List.mem_append]
   refine .inr (.inl ?_)
   have : ∀ (ds : List (DataW H)) (d : DataW H),d ∈ ds → n ∈ d.weights P e → n ∈ DataW.weightsAll P e ds:=by
    intro ds
    induction ds with
    | nil=>intro d hd; cases hd
    | cons d0 r ih=>
      intro d hd hn
      rw [DataW.weightsAll,List.mem_append]
      rcases List.mem_cons.1 hd with rfl | hd
      ·exact .inl hn
      ·exact .inr (ih d hd hn)
   exact this _ (D i) (List.mem_map.2 ⟨i,List.mem_range.2 hi,rfl⟩) hn
  have hl2:=list_of (p:=fun i b=>Pr w (V i) b) len (fun i hi=>hel n (V i) _ (hel2 i (by omega)).2 (hlight i hi))
  obtain ⟨l,rfl,l2⟩:=hl2
  have hmx : m ≤ 9223372036854775807:=by unfold maxLen at hm; exact hm
  rcases Nat.eq_zero_or_pos l.length with h0 | h0
  ·refine ⟨l,⟨some a,a.block,a.off,m,rfl,fun h=>by omega,hlc,hmx,fun i hi=>by omega⟩,.inl (.inr ⟨a,m,by rw [h0]⟩),by rw [h0]; simp⟩
  ·have hsp : a.spot = none:=by
    have:=cell_spot (hel2 0 (by omega)).1
    unfold Addr.add at this
    simpa using this
   have ha : a = ⟨a.block,a.off,none⟩:=by
    obtain ⟨b,o,s⟩:=a
    simp only at hsp
    rw [hsp]
   refine ⟨l,⟨some a,a.block,a.off,m,rfl,fun _=>by rw [← ha],hlc,hmx,fun i hi=>⟨V i,?_,l2 i hi⟩⟩,.inr ⟨a.block,a.off,_,m,by rw [← ha]⟩,?_⟩
   ·rw [← add_spot hsp]; exact (hel2 i (by omega)).1
   ·exact Nat.le_trans (Nat.mul_le_mul_right _ (by omega)) hw
theorem open_i64 (ht : P.underlying t = some (.int .i64)) (h : DataW.trod enc P w 0 (fun _=>true) true fuel t [v] = some x) : ∃ n : Int,v = Vi n ∧ I64 n:=by
 obtain ⟨n,h1,_,h2⟩:=DataW.trod_int ht h
 exact ⟨n,by simpa using h1,i64_wf h2⟩
theorem open_tf (ht : P.underlying t = some .bool) (h : DataW.trod enc P w 0 (fun _=>true) true fuel t [v] = some x) : ∃ b : Bool,v = .bool b:=by
 obtain ⟨b,h1,_⟩:=DataW.trod_bool ht h
 exact ⟨b,by simpa using h1⟩
end
section
variable {H : Type} {enc : TypeId × Value → H} {w : World} {fuel : Nat} {x : DataW H × List MemPlace} {v : Value}
theorem cells_tInt : Tryz.prog.cellsOf 3 = 1:=by kernel_rfl
theorem cells_tBool : Tryz.prog.cellsOf 4 = 1:=by kernel_rfl
theorem cells_tInts : Tryz.prog.cellsOf 35 = 1:=by kernel_rfl
theorem cells_tRows : Tryz.prog.cellsOf 22 = 1:=by kernel_rfl
theorem cells_tBools : Tryz.prog.cellsOf 23 = 1:=by kernel_rfl
theorem bytes_tInt : Tryz.prog.bytesOf 3 = 8:=by kernel_rfl
theorem bytes_tBool : Tryz.prog.bytesOf 4 = 1:=by kernel_rfl
theorem bytes_tInts : Tryz.prog.bytesOf 35 = 24:=by kernel_rfl
def PRowB (w : World) (v : Value) (l : List Int) : Prop:=PRow w v l ∧ l.length * 8 ≤ 140737488351232
theorem open_ints2 (h : DataW.trod enc Tryz.prog w 0 (fun _=>true) true fuel 35 [v] = some x) (hl : Light Tryz.prog 35 x.1) : ∃ l : List Int,PRowB w v l:=by
 obtain ⟨l,h1,h2,h3⟩:=open_sl (Pr:=PInt) Tryz.underlying35 cells_tInt h hl (fun n u y hy _=>by
  obtain ⟨a,ha,hb⟩:=open_i64 Tryz.underlying3 hy
  exact ⟨a,ha,hb⟩)
 rw [bytes_tInt] at h3
 exact ⟨l,⟨h1,h2⟩,h3⟩
theorem open_bools2 (h : DataW.trod enc Tryz.prog w 0 (fun _=>true) true fuel 23 [v] = some x) (hl : Light Tryz.prog 23 x.1) : ∃ l : List Bool,Sl w v l PBool ∧ Ok v ∧ l.length ≤ 140737488351232:=by
 obtain ⟨l,h1,h2,h3⟩:=open_sl (Pr:=PBool) Tryz.underlying23 cells_tBool h hl (fun n u y hy _=>by
  obtain ⟨a,ha⟩:=open_tf Tryz.underlying4 hy
  exact ⟨a,ha⟩)
 rw [bytes_tBool] at h3
 exact ⟨l,h1,h2,by omega⟩
theorem open_rows2 (h : DataW.trod enc Tryz.prog w 0 (fun _=>true) true fuel 22 [v] = some x) (hl : Light Tryz.prog 22 x.1) :
  ∃ l : List (List Int),Sl w v l PRow ∧ Ok v ∧ l.length * 24 ≤ 140737488351232 ∧ ∀ r ∈ l,r.length * 8 ≤ 140737488351232:=by
 obtain ⟨l,h1,h2,h3⟩:=open_sl (Pr:=PRowB) Tryz.underlying22 cells_tInts h hl (fun n u y hy hly=>open_ints2 hy hly)
 rw [bytes_tInts] at h3
 obtain ⟨a,b,o,cap,rfl,g1,g2,g3,g4⟩:=h1
 refine ⟨l,⟨a,b,o,cap,rfl,g1,g2,g3,fun i hi=>?_⟩,h2,h3,fun r hr=>?_⟩
 ·obtain ⟨u,u1,u2⟩:=g4 i hi
  exact ⟨u,u1,u2.1⟩
 ·obtain ⟨i,hi,rfl⟩:=List.mem_iff_getElem.1 hr
  obtain ⟨u,u1,u2⟩:=g4 i hi
  exact u2.2
structure MaIn (w : World) (L s : Int) (next : List (List Int)) (fin : List Bool) (vn ve : Value) : Prop where
 ma : Ma w L s next fin vn ve
 nb : next.length * 24 ≤ 140737488351232
 rb : ∀ r ∈ next,r.length * 8 ≤ 140737488351232
 fb : fin.length ≤ 140737488351232
theorem open_machine {d : DataW H} {ps : List MemPlace} (h : DataW.Trod enc Tryz.prog w 0 (fun _=>true) true 25 v d ps) (hl : Light Tryz.prog 25 d) :
  ∃ (L s : Int) (next : List (List Int)) (fin : List Bool) (vn ve : Value),v = .agg #[Vi L,Vi s,vn,ve] ∧ MaIn w L s next fin vn ve:=by
 obtain ⟨fuel,hf⟩:=h
 obtain ⟨xs,n,rfl,hx,hlen,hxl,hfs⟩:=DataW.trod_struct Tryz.underlying25 hf
 rw [show Tryz.prog.cellsOf 25 = 4 by kernel_rfl] at hlen
 simp only [Prod.mk.injEq] at hx
 obtain ⟨rfl,-⟩:=hx
 have hv : ∃ a b c d,v = .agg #[a,b,c,d]:=by
  cases v <;> simp [Value.cells] at hlen
  rename_i cs
  obtain ⟨l⟩:=cs
  match l,hlen with
  | [a,b,c,d],_=>exact ⟨a,b,c,d,rfl⟩
 obtain ⟨va,vb,vc,vd,rfl⟩:=hv
 have f0 : DataW.trod enc Tryz.prog w 0 (fun _=>true) true n 3 ([va,vb,vc,vd].take (Tryz.prog.cellsOf 3)) = xs[0]?:=hfs 0 _ rfl
 have f1 : DataW.trod enc Tryz.prog w 0 (fun _=>true) true n 3 ([vb,vc,vd].take (Tryz.prog.cellsOf 3)) = xs[1]?:=hfs 1 _ rfl
 have f2 : DataW.trod enc Tryz.prog w 0 (fun _=>true) true n 22 ([vc,vd].take (Tryz.prog.cellsOf 22)) = xs[2]?:=hfs 2 _ rfl
 have f3 : DataW.trod enc Tryz.prog w 0 (fun _=>true) true n 23 ([vd].take (Tryz.prog.cellsOf 23)) = xs[3]?:=hfs 3 _ rfl
 rw [cells_tInt] at f0 f1
 rw [cells_tRows] at f2
 rw [cells_tBools] at f3
 match xs,hxl with
 | [x0,x1,x2,x3],_=>
   replace f0 : DataW.trod enc Tryz.prog w 0 (fun _=>true) true n 3 [va] = some x0:=f0
   replace f1 : DataW.trod enc Tryz.prog w 0 (fun _=>true) true n 3 [vb] = some x1:=f1
   replace f2 : DataW.trod enc Tryz.prog w 0 (fun _=>true) true n 22 [vc] = some x2:=f2
   replace f3 : DataW.trod enc Tryz.prog w 0 (fun _=>true) true n 23 [vd] = some x3:=f3
   have hw : ∀ (i : Nat) (t : TypeId) (y : DataW H × List MemPlace),[(3 : TypeId),3,22,23][i]? = some t → [x0,x1,x2,x3][i]? = some y → Light Tryz.prog t y.1:=fun i t y ht hy m hm=>by
    refine hl m ?_
    simp only [DataW.weights,Tryz.underlying25]
    refine DataW.weights_mem_each (j:=i) (t:=t) (d:=y.1) ?_ ?_ m hm
    ·simpa using ht
    ·rw [List.getElem?_map,hy]; rfl
   obtain ⟨L,rfl,hL⟩:=open_i64 Tryz.underlying3 f0
   obtain ⟨s,rfl,hs⟩:=open_i64 Tryz.underlying3 f1
   obtain ⟨next,n1,n2,n3,n4⟩:=open_rows2 f2 (hw 2 _ _ rfl rfl)
   obtain ⟨fin,e1,e2,e3⟩:=open_bools2 f3 (hw 3 _ _ rfl rfl)
   exact ⟨L,s,next,fin,vc,vd,rfl,⟨⟨n1,e1,hL,hs,n2,e2⟩,n3,n4,e3⟩⟩
end
section
variable {H : Type} {enc : TypeId × Value → H}
theorem args_stay {P : Program} (hl : laidOutB P = true) {W W' : World} (hb : RowKit.Below W.heap.size W W') : ∀ {ts : List TypeId} {vs : List Value} {ds : List (DataW H)} {ps : List MemPlace},
  (∀ t ∈ ts,P.readableRec t = true ∧ t < P.types.size) → (∀ p ∈ ps,p.block < W.heap.size) → DataW.TrodAll enc P W 0 (fun _=>true) true ts vs ds ps → DataW.TrodAll enc P W' 0 (fun b=>decide (b < W.heap.size)) true ts vs ds ps
 | [],vs,ds,ps,_,_,h=>by
   cases vs <;> cases ds <;> simp only [DataW.TrodAll] at h ⊢
   exact h
 | t :: ts,vs,ds,ps,hr,hlt,h=>by
   obtain ⟨v,vs',d,ds',p,q,rfl,rfl,rfl,h1,h2⟩:=trodAll_cons h
   exact ⟨p,q,RowKit.Below.trod hl (hr t (List.mem_cons_self ..)).1 (hr t (List.mem_cons_self ..)).2 h1 hb (fun x hx=>hlt x (List.mem_append_left _ hx)),
    args_stay hl hb (fun u hu=>hr u (List.mem_cons_of_mem _ hu)) (fun x hx=>hlt x (List.mem_append_right _ hx)) h2,rfl⟩
theorem law_post {f : Func} {s : ChangeSpec} {W W' : World} {args : Array Value} {ds gs : List (DataW H)} {before : List MemPlace} {tb : TypeId}
  (hW : DataW.Whole enc Tryz.prog f.params.toList s.vars false W args.toList ds gs before) (hs0 : s.vars = []) (hsp : s.fn H ds = { results:=[.lit (.bool true)],args:=ds }) (hr : f.resultTypes = #[tb]) (hbool : Tryz.prog.underlying tb = some .bool)
  (hl : laidOutB Tryz.prog = true) (hts : ∀ t ∈ f.params.toList,Tryz.prog.readableRec t = true ∧ t < Tryz.prog.types.size) (hb : RowKit.Below W.heap.size W W') : s.post enc Tryz.prog f false true false false W args (.bool true) W':=by
 have hW':=hW
 obtain ⟨p,q,hA,hV,rfl,_,_⟩:=hW
 rw [hs0] at hV
 obtain ⟨rfl,rfl⟩:=trodVars_none hV
 have hlt : ∀ x ∈ p,x.block < W.heap.size:=fun x hx=>hW'.lt x (List.mem_append_left _ hx)
 have hsp' : s.fn H (ds ++ []) = { results:=[.lit (.bool true)],args:=ds }:=by rw [List.append_nil]; exact hsp
 refine ⟨ds,[],p ++ [],[],p,[],hW',?_,?_,?_,(hb.frame _),fun h=>by cases h⟩
 ·rw [hsp',hr]
  exact trodAll_mk1 (RowKit.shut_bool hbool true)
 ·rw [hsp']
  exact args_stay hl hb hts hlt hA
 ·rw [hsp',hs0]
  exact rfl
end
end Go.Proofs.YthcoppfiahnpoaaGreat
namespace Go.Proofs.YthcoppfiahnpoaaGreat
open Go Sym
theorem Rows.lit {base : Nat} {w : World} {l : List Ow} (h : Rows base w l) (hb : base ≤ w.heap.size) (cs : List Value) (e n : Nat) (hn : cs.length = n) (hm : n ≤ 9223372036854775807) : Rows base (w.alloc (.cells cs.toArray e)) (⟨Vs w.heap.size n n,e,1,n,cs⟩ :: l):=by
 refine h.new (World.grownBy_alloc w _ none) ?_ (.inr ⟨_,rfl,Nat.le_refl _⟩)
 have h1:=World.ownsRow_lit (base:=base) (e:=e) (size:=1) w cs.toArray n hb (by unfold maxLen; exact hm) (by simp [hn])
 simpa [Ow.ok] using h1
theorem Rows.slRows {base : Nat} {w : World} {l : List Ow} (h : Rows base w l) {i : Nat} {v : Value} {e : Nat} {vs : List Value} {next : List (List Int)} (hi : l[i]? = some ⟨v,e,1,vs.length,vs⟩) (hl : vs.length = next.length)
  (hr : ∀ j (h1 : j < vs.length) (h2 : j < next.length),∃ k : Nat,l[k]? = some (oI vs[j] next[j]) ∧ ∀ x ∈ next[j],I64 x) : Sl w v next PRow ∧ Ok v:=by
 refine sl_own (P:=PRow) (h.1 i _ hi) hl fun j hj=>⟨vs[j],by simp [hl,hj],?_⟩
 obtain ⟨k,h1,h2⟩:=hr j (by omega) hj
 exact h.slI h1 h2
theorem fillS3 (g0 g1 g2 : Option Addr) (n0 n1 n2 c0 c1 c2 : Nat) (z : Value) : Instr.fill (fun i=>some (i * 1,1)) (madeCells #[z] 3) [(0,.slice g0 n0 c0),(1,.slice g1 n1 c1),(2,.slice g2 n2 c2)] = some #[.slice g0 n0 c0,.slice g1 n1 c1,.slice g2 n2 c2]:=by
 have h : ∀ g n c,(Value.slice g n c).cells = #[.slice g n c]:=fun _ _ _=>rfl
 simp [Instr.fill,madeCells,h,Array.range,Array.foldl]
 rfl
theorem fillB3 (a b c : Bool) (z : Value) : Instr.fill (fun i=>some (i * 1,1)) (madeCells #[z] 3) [(0,.bool a),(1,.bool b),(2,.bool c)] = some #[.bool a,.bool b,.bool c]:=by
 have h : ∀ b,(Value.bool b).cells = #[.bool b]:=fun _=>rfl
 simp [Instr.fill,madeCells,h,Array.range,Array.foldl]
 rfl
theorem even_any (w : World) : Calls Tryz.prog 13 #[] w fun e w'=>∃ vn ve,e = .returned (.agg #[Vi 1,Vi 0,vn,ve]) ∧ Ma w' 1 0 evenN evenF vn ve ∧ RowKit.Below w.heap.size w w':=by
 refine Sym.enter (args:=[]) Tryz.func13 rfl rfl rfl (fun a0 hS0=>?_)
 obtain ⟨N,hN⟩ : ∃ N,N = w.heap.size:=⟨_,rfl⟩
 refine wp_seq (seq_cut [(0,Vp N)] (· = w.alloc (.cells #[Vi 0,Vi 0,.slice none 0 0,.slice none 0 0] 25)) tab_ok hS0 ?_ (fun a wc hS hw=>?_))
 ·subst hN
  refine zB rfl ?_
  repeat first|refine zP rfl ?_|refine zK rfl ?_
  exact o_nil ⟨⟨rfl,trivial⟩,rfl⟩
 have hB : RowKit.Below w.heap.size w wc:=by rw [hw]; exact below_alloc _ _
 have ho : OwnB wc N 25 [Vi 0,Vi 0,.slice none 0 0,.slice none 0 0]:=by rw [hw,hN]; exact OwnB.new _ _ _
 clear hw
 refine wp_seq (seq_cutx (α:=Value × Value) (fun _=>[(0,Vp N)]) (fun x w'=>RowKit.Below w.heap.size w w' ∧ Ma w' 1 0 evenN evenF x.1 x.2 ∧ OwnB w' N 25 [Vi 1,Vi 0,x.1,x.2]) tab_ok hS ?_ (fun x a w1 hS h1=>?_))
 ·have R0:=Rows.nil wc.heap.size wc
  have R1:=R0.lit (Nat.le_refl _) [Vi 1] 3 1 rfl (by decide)
  obtain ⟨w1,hw1⟩ : ∃ w1,wc.alloc (.cells #[Vi 1] 3) = w1:=⟨_,rfl⟩
  have hB1 : RowKit.Below wc.heap.size wc w1:=by rw [← hw1]; exact below_alloc _ _
  rw [show wc.alloc (.cells [Vi 1].toArray 3) = w1 from hw1] at R1
  have R2:=R1.lit hB1.size [Vi 2] 3 1 rfl (by decide)
  obtain ⟨w2,hw2⟩ : ∃ w2,w1.alloc (.cells #[Vi 2] 3) = w2:=⟨_,rfl⟩
  have hB2 : RowKit.Below wc.heap.size wc w2:=below_trans hB1 (by rw [← hw2]; exact below_alloc _ _)
  rw [show w1.alloc (.cells [Vi 2].toArray 3) = w2 from hw2] at R2
  have R3:=R2.lit hB2.size [Vi 1] 3 1 rfl (by decide)
  obtain ⟨w3,hw3⟩ : ∃ w3,w2.alloc (.cells #[Vi 1] 3) = w3:=⟨_,rfl⟩
  have hB3 : RowKit.Below wc.heap.size wc w3:=below_trans hB2 (by rw [← hw3]; exact below_alloc _ _)
  rw [show w2.alloc (.cells [Vi 1].toArray 3) = w3 from hw3] at R3
  have R4:=R3.lit hB3.size [Vs wc.heap.size 1 1,Vs w1.heap.size 1 1,Vs w2.heap.size 1 1] 35 3 rfl (by decide)
  obtain ⟨w4,hw4⟩ : ∃ w4,w3.alloc (.cells #[Vs wc.heap.size 1 1,Vs w1.heap.size 1 1,Vs w2.heap.size 1 1] 35) = w4:=⟨_,rfl⟩
  have hB4 : RowKit.Below wc.heap.size wc w4:=below_trans hB3 (by rw [← hw4]; exact below_alloc _ _)
  rw [show w3.alloc (.cells [Vs wc.heap.size 1 1,Vs w1.heap.size 1 1,Vs w2.heap.size 1 1].toArray 35) = w4 from hw4] at R4
  have R5:=R4.lit hB4.size [.bool true,.bool false,.bool true] 4 3 rfl (by decide)
  obtain ⟨w5,hw5⟩ : ∃ w5,w4.alloc (.cells #[.bool true,.bool false,.bool true] 4) = w5:=⟨_,rfl⟩
  have hB5 : RowKit.Below wc.heap.size wc w5:=below_trans hB4 (by rw [← hw5]; exact below_alloc _ _)
  rw [show w4.alloc (.cells [Value.bool true,.bool false,.bool true].toArray 4) = w5 from hw5] at R5
  have ho5:=ho.keep hB5 ho.lt
  have hg:=grown_sets N [Vi 1,Vi 0,Vs w3.heap.size 3 3,Vs w4.heap.size 3 3] 0 w5
  have hNc : N < wc.heap.size:=ho.lt
  have R6:=R5.keptLow hg (fun k hk=>by cases hk; exact hNc)
  have hn:=R6.slRows (i:=1) (vs:=[Vs wc.heap.size 1 1,Vs w1.heap.size 1 1,Vs w2.heap.size 1 1]) (next:=evenN) rfl rfl (fun j h1 h2=>by
   match j,h1 with
   | 0,_=>exact ⟨4,rfl,fun x hx=>by simp [evenN] at hx; subst hx; exact ⟨by decide,by decide⟩⟩
   | 1,_=>exact ⟨3,rfl,fun x hx=>by simp [evenN] at hx; subst hx; exact ⟨by decide,by decide⟩⟩
   | 2,_=>exact ⟨2,rfl,fun x hx=>by simp [evenN] at hx; subst hx; exact ⟨by decide,by decide⟩⟩)
  have he:=R6.slB (i:=0) (xs:=evenF) rfl
  have hma : Ma _ 1 0 evenN evenF (Vs w3.heap.size 3 3) (Vs w4.heap.size 3 3):=⟨hn.1,he.1,⟨by decide,by decide⟩,⟨by decide,by decide⟩,hn.2,he.2⟩
  have hlow : RowKit.Below w.heap.size w _:=below_of_grown (below_trans hB hB5) hg (fun k hk=>by cases hk; omega)
  refine o_step rfl rfl rfl ?_
  refine Exists.intro [(0,Vi (1))] (Exists.intro #[Vi (1)] (And.intro (And.intro rfl rfl) (And.intro (by decide) (And.intro (fillI _ _ _) ?_))))
  rw [hw1]
  refine o_step rfl rfl rfl ?_
  refine Exists.intro [(0,Vi (2))] (Exists.intro #[Vi (2)] (And.intro (And.intro rfl rfl) (And.intro (by decide) (And.intro (fillI _ _ _) ?_))))
  rw [hw2]
  refine o_step rfl rfl rfl ?_
  refine Exists.intro [(0,Vi (1))] (Exists.intro #[Vi (1)] (And.intro (And.intro rfl rfl) (And.intro (by decide) (And.intro (fillI _ _ _) ?_))))
  rw [hw3]
  refine o_step rfl rfl rfl ?_
  refine Exists.intro [(0,Vs wc.heap.size 1 1),(1,Vs w1.heap.size 1 1),(2,Vs w2.heap.size 1 1)] (Exists.intro _ (And.intro (And.intro rfl rfl) (And.intro (by decide) (And.intro (fillS3 ..) ?_))))
  rw [hw4]
  refine o_step rfl rfl rfl ?_
  refine Exists.intro [(0,.bool true),(1,.bool false),(2,.bool true)] (Exists.intro _ (And.intro (And.intro rfl rfl) (And.intro (by decide) (And.intro (fillB3 ..) ?_))))
  rw [hw5]
  repeat first|refine zP rfl ?_|refine zK rfl ?_
  refine o_step0 rfl rfl (And.intro rfl (And.intro rfl (And.intro (own_cells4 ho5) ?_)))
  exact o_nil ⟨(Vs w3.heap.size 3 3,Vs w4.heap.size 3 3),⟨rfl,trivial⟩,hlow,hma,ho5.sets rfl⟩
 obtain ⟨h1,h2,h3⟩:=h1
 refine wp_ret ?_
 repeat (first | refine then_ret ?_ | refine block_ret ?_)
 refine retc1 tab_ok hS rfl rfl rfl rfl (o:=0) (vs:=[Vi 1,Vi 0,x.1,x.2]) ⟨h3.cell (i:=0) rfl,h3.cell (i:=1) rfl,h3.cell (i:=2) rfl,h3.cell (i:=3) rfl,trivial⟩ rfl ⟨x.1,x.2,rfl,h2,h1⟩
end Go.Proofs.YthcoppfiahnpoaaGreat
namespace Go.Proofs.YthcoppfiahnpoaaGreat
open Go Sym
def smallM (L : Int) (next : List (List Int)) (fin : List Bool) : Bool:=decide ((next.length : Int) ≤ 30) && (decide ((fin.length : Int) ≤ 40) && decide (L ≤ 8))
theorem small_any (L s : Int) (vn ve : Value) (next : List (List Int)) (fin : List Bool) (w : World) (hm : Ma w L s next fin vn ve) :
  Calls Tryz.prog 4 #[.agg #[Vi L,Vi s,vn,ve]] w fun e w'=>e = .returned (.bool (smallM L next fin)) ∧ RowKit.Below w.heap.size w w':=by
 refine Sym.enter (args:=[.agg #[Vi L,Vi s,vn,ve]]) Tryz.func4 rfl rfl rfl (fun a0 hS0=>?_)
 refine wp_seq (seq_cut [(1,Vp w.heap.size)] (· = w.alloc (.cells #[Vi L,Vi s,vn,ve] 25)) tab_ok hS0 ?_ (fun a wc hS hw=>?_))
 ·refine zB rfl ?_
  repeat first|refine zP rfl ?_|refine zK rfl ?_
  exact o_nil ⟨⟨rfl,trivial⟩,rfl⟩
 have hB : RowKit.Below w.heap.size w wc:=by rw [hw]; exact below_alloc _ _
 have hx : Box wc w.heap.size L s vn ve:=by rw [hw]; exact Box.new _ _ _ _ _ _
 clear hw
 obtain ⟨an,cn,hvn⟩:=hm.n.len
 subst hvn
 obtain ⟨ae,ce,hve⟩:=hm.e.len
 subst hve
 refine wp_seq (seq_cut [(2,.bool (smallM L next fin))] (· = wc) tab_ok hS ?_ (fun a w3 hS hw=>?_))
 ·repeat first|refine zP rfl ?_|refine zK rfl ?_
  refine zL rfl (hx.c2) ?_
  repeat first|refine zP rfl ?_|refine zK rfl ?_
  cases e1 : decide ((next.length : Int) ≤ 30)
  case false=>
   refine zC rfl (e1) ?_
   repeat first|refine zP rfl ?_|refine zK rfl ?_
   exact o_nil ⟨⟨by rw [smallM,e1]; rfl,trivial⟩,rfl⟩
  case true=>
   refine zC rfl (e1) ?_
   repeat first|refine zP rfl ?_|refine zK rfl ?_
   refine zL rfl (hx.c3) ?_
   repeat first|refine zP rfl ?_|refine zK rfl ?_
   cases e2 : decide ((fin.length : Int) ≤ 40)
   case false=>
    refine zC rfl (e2) ?_
    repeat first|refine zP rfl ?_|refine zK rfl ?_
    exact o_nil ⟨⟨by rw [smallM,e1,e2]; rfl,trivial⟩,rfl⟩
   case true=>
    refine zC rfl (e2) ?_
    repeat first|refine zP rfl ?_|refine zK rfl ?_
    refine zL rfl (hx.c0) ?_
    refine zC rfl (rfl) ?_
    repeat first|refine zP rfl ?_|refine zK rfl ?_
    exact o_nil ⟨⟨by rw [smallM,e1,e2]; rfl,trivial⟩,rfl⟩
 subst hw
 refine wp_ret ?_
 repeat (first | refine then_ret ?_ | refine block_ret ?_)
 exact ret1 hS rfl rfl ⟨rfl,hB⟩
structure BoxP (w : World) (B : Nat) (a b : Int) : Prop where
 c0 : w.cell? ⟨B,0,none⟩ = some (Vi a)
 c1 : w.cell? ⟨B,1,none⟩ = some (Vi b)
theorem BoxP.keep {w w' : World} (hb : RowKit.Below w.heap.size w w') {B : Nat} {a b : Int} (h : BoxP w B a b) : BoxP w' B a b:=
 ⟨YthcoppfiahnpoaaGreat.keep hb h.c0,YthcoppfiahnpoaaGreat.keep hb h.c1⟩
theorem BoxP.new (w : World) (a b : Int) (T : TypeId) : BoxP (w.alloc (.cells #[Vi a,Vi b] T)) w.heap.size a b:=⟨cell_alloc_new rfl,cell_alloc_new rfl⟩
theorem two_any (L1 s1 L2 s2 : Int) (vn1 ve1 vn2 ve2 : Value) (n1 n2 : List (List Int)) (f1 f2 : List Bool) (w : World) (hm : Ma w L1 s1 n1 f1 vn1 ve1) (hm2 : Ma w L2 s2 n2 f2 vn2 ve2) :
  Calls Tryz.prog 46 #[.agg #[Vi L1,Vi s1,vn1,ve1],.agg #[Vi L2,Vi s2,vn2,ve2]] w fun e w'=>e = .returned (Vi (twoM L1 s1 n1 f1 L2 s2 n2 f2)) ∧ RowKit.Below w.heap.size w w':=by
 refine Sym.enter (args:=[.agg #[Vi L1,Vi s1,vn1,ve1],.agg #[Vi L2,Vi s2,vn2,ve2]]) Tryz.func46 rfl rfl rfl (fun a0 hS0=>?_)
 obtain ⟨N,hN⟩ : ∃ N,N = (w.alloc (.cells #[Vi L1,Vi s1,vn1,ve1] 25)).heap.size:=⟨_,rfl⟩
 refine wp_seq (seq_cut [(2,Vp w.heap.size),(3,Vp N)] (· = (w.alloc (.cells #[Vi L1,Vi s1,vn1,ve1] 25)).alloc (.cells #[Vi L2,Vi s2,vn2,ve2] 25)) tab_ok hS0 ?_ (fun a wc hS hw=>?_))
 ·subst hN
  refine zB rfl ?_
  refine zB rfl ?_
  repeat first|refine zP rfl ?_|refine zK rfl ?_
  exact o_nil ⟨⟨rfl,rfl,trivial⟩,rfl⟩
 have hB1:=below_alloc w (.cells #[Vi L1,Vi s1,vn1,ve1] 25)
 have hB2:=below_alloc (w.alloc (.cells #[Vi L1,Vi s1,vn1,ve1] 25)) (.cells #[Vi L2,Vi s2,vn2,ve2] 25)
 rw [← hw] at hB2
 have hx:=(Box.new w L1 s1 vn1 ve1 25).keep hB2
 have hy : Box wc N L2 s2 vn2 ve2:=by rw [hw,hN]; exact Box.new _ _ _ _ _ _
 have hB:=below_trans hB1 hB2
 clear hw hB1 hB2 hN
 replace hm:=hm.keep hB
 replace hm2:=hm2.keep hB
 obtain ⟨hb,hhb⟩ : ∃ b,(decide (validM L1 s1 n1 f1 ≠ 0) || decide (validM L2 s2 n2 f2 ≠ 0)) = b:=⟨_,rfl⟩
 refine wp_seq (wp_seq (seq_cut [(2,Vp w.heap.size),(3,Vp N),(12,.bool hb)] (fun w'=>RowKit.Below wc.heap.size wc w') tab_ok hS ?_ (fun a w2 hS hw=>?_)))
 ·refine zA ([Vi L1,Vi s1,vn1,ve1]) rfl rfl (hx.cells) ?_
  refine zF rfl (en_Valid) (valid_any L1 s1 vn1 ve1 n1 f1 _ hm) ?_
  rintro e w1 ⟨rfl,h1⟩
  refine ⟨_,rfl,?_⟩
  cases e1 : decide (validM L1 s1 n1 f1 ≠ 0)
  case true=>
   rw [e1,Bool.true_or] at hhb; subst hhb
   refine zC rfl (e1) ?_
   repeat first|refine zP rfl ?_|refine zK rfl ?_
   exact o_nil ⟨⟨rfl,rfl,rfl,trivial⟩,h1⟩
  case false=>
   rw [e1,Bool.false_or] at hhb
   refine zC rfl (e1) ?_
   repeat first|refine zP rfl ?_|refine zK rfl ?_
   refine zA ([Vi L2,Vi s2,vn2,ve2]) rfl rfl ((hy.keep h1).cells) ?_
   refine zF rfl (en_Valid) (valid_any L2 s2 vn2 ve2 n2 f2 _ (hm2.keep h1)) ?_
   rintro e w3 ⟨rfl,h3⟩
   refine ⟨_,rfl,?_⟩
   refine zC rfl (hhb) ?_
   repeat first|refine zP rfl ?_|refine zK rfl ?_
   exact o_nil ⟨⟨rfl,rfl,rfl,trivial⟩,below_trans h1 h3⟩
 replace hB:=below_trans hB hw
 replace hx:=hx.keep hw
 replace hy:=hy.keep hw
 refine cond hS rfl (fun hT=>?_) (fun hF=>?_)
 ·refine wp_seq (seq_cut [(4,Vi 1)] (· = w2) tab_ok hS ?_ (fun a w3 hS hw=>?_))
  ·repeat first|refine zP rfl ?_|refine zK rfl ?_
   exact o_nil ⟨⟨rfl,trivial⟩,rfl⟩
  subst hw
  refine wp_ret ?_
  repeat (first | refine then_ret ?_ | refine block_ret ?_)
  refine ret1 hS rfl rfl ⟨?_,hB⟩
  subst hT
  rw [Bool.or_eq_true,decide_eq_true_eq,decide_eq_true_eq] at hhb
  rw [twoM]
  split
  ·rfl
  ·rename_i h0
   rw [if_pos (hhb.resolve_left h0)]
 subst hF
 rw [Bool.or_eq_false_iff,decide_eq_false_iff_not,decide_eq_false_iff_not] at hhb
 have htwo : twoM L1 s1 n1 f1 L2 s2 n2 f2 = if L1 ≠ L2 then 4 else 0:=by rw [twoM,if_neg hhb.1,if_neg hhb.2]
 refine wp_skip ?_
 obtain ⟨hb2,hhb2⟩ : ∃ b,decide (L1 ≠ L2) = b:=⟨_,rfl⟩
 refine wp_seq (wp_seq (seq_cut [(17,.bool hb2)] (· = w2) tab_ok hS ?_ (fun a w3 hS hw=>?_)))
 ·repeat first|refine zP rfl ?_|refine zK rfl ?_
  refine zL rfl (hx.c0) ?_
  repeat first|refine zP rfl ?_|refine zK rfl ?_
  refine zL rfl (hy.c0) ?_
  refine zC rfl (hhb2) ?_
  repeat first|refine zP rfl ?_|refine zK rfl ?_
  exact o_nil ⟨⟨rfl,trivial⟩,rfl⟩
 subst hw
 refine cond hS rfl (fun hT=>?_) (fun hF=>?_)
 ·refine wp_seq (seq_cut [(4,Vi 4)] (· = w3) tab_ok hS ?_ (fun a w4 hS hw=>?_))
  ·repeat first|refine zP rfl ?_|refine zK rfl ?_
   exact o_nil ⟨⟨rfl,trivial⟩,rfl⟩
  subst hw
  refine wp_ret ?_
  repeat (first | refine then_ret ?_ | refine block_ret ?_)
  exact ret1 hS rfl rfl ⟨by rw [htwo,if_pos (of_decide_eq_true (hhb2.trans hT))],hB⟩
 refine wp_skip ?_
 refine wp_seq (seq_cut [(4,Vi 0)] (· = w3) tab_ok hS ?_ (fun a w4 hS hw=>?_))
 ·repeat first|refine zP rfl ?_|refine zK rfl ?_
  exact o_nil ⟨⟨rfl,trivial⟩,rfl⟩
 subst hw
 refine wp_ret ?_
 repeat (first | refine then_ret ?_ | refine block_ret ?_)
 exact ret1 hS rfl rfl ⟨by rw [htwo,if_neg (of_decide_eq_false (hhb2.trans hF))],hB⟩
end Go.Proofs.YthcoppfiahnpoaaGreat
namespace Go.Proofs.YthcoppfiahnpoaaGreat
open Go Sym
def SlP (w : World) (v : Value) (l : List (Int × Int)) : Prop:=
 ∃ a b o cap,v = .slice a l.length cap ∧ (0 < l.length → a = some ⟨b,o,none⟩) ∧ l.length ≤ cap ∧ cap ≤ 9223372036854775807 ∧ ∀ i (h : i < l.length),cellsAt w.cell? b (o + i * 2) [Vi l[i].1,Vi l[i].2] ∧ I64 l[i].1 ∧ I64 l[i].2
theorem SlP.keep {w w' : World} (hb : RowKit.Below w.heap.size w w') {v : Value} {l : List (Int × Int)} (h : SlP w v l) : SlP w' v l:=by
 obtain ⟨a,b,o,cap,rfl,h1,h2,h3,h4⟩:=h
 exact ⟨a,b,o,cap,rfl,h1,h2,h3,fun i hi=>⟨⟨YthcoppfiahnpoaaGreat.keep hb (h4 i hi).1.1,YthcoppfiahnpoaaGreat.keep hb (h4 i hi).1.2.1,trivial⟩,(h4 i hi).2⟩⟩
theorem BoxP.cells {w : World} {B : Nat} {a b : Int} (h : BoxP w B a b) : cellsAt w.cell? B 0 [Vi a,Vi b]:=⟨h.c0,h.c1,trivial⟩
theorem en_at : enters Tryz.prog 79 = true:=by kernel_rfl
theorem en_Copy : enters Tryz.prog 9 = true:=by kernel_rfl
theorem at_any (v : Value) (l : List (Int × Int)) (p q : Int) (w : World) (hl : SlP w v l) :
  Calls Tryz.prog 79 #[v,.agg #[Vi p,Vi q]] w fun e w'=>e = .returned (Vi (atGo (p,q) l 0)) ∧ RowKit.Below w.heap.size w w':=by
 refine Sym.enter (args:=[v,.agg #[Vi p,Vi q]]) Tryz.func79 rfl rfl rfl (fun a0 hS0=>?_)
 refine wp_seq (seq_cut [(0,v),(3,Vp w.heap.size)] (· = w.alloc (.cells #[Vi p,Vi q] 48)) tab_ok hS0 ?_ (fun a wc hS hw=>?_))
 ·refine zB rfl ?_
  repeat first|refine zP rfl ?_|refine zK rfl ?_
  exact o_nil ⟨⟨rfl,rfl,trivial⟩,rfl⟩
 have hB : RowKit.Below w.heap.size w wc:=by rw [hw]; exact below_alloc _ _
 have hx : BoxP wc w.heap.size p q:=by rw [hw]; exact BoxP.new _ _ _ _
 clear hw
 replace hl:=hl.keep hB
 obtain ⟨al,bl,ol,cl,rfl,h1,h2,h3,h4⟩:=hl
 refine wp_seq (wp_seq (seq_cut [(0,.slice al l.length cl),(3,Vp w.heap.size),(5,Vi 0)] (· = wc) tab_ok hS ?_ (fun a w2 hS hw=>?_)))
 ·repeat first|refine zP rfl ?_|refine zK rfl ?_
  exact o_nil ⟨⟨rfl,rfl,rfl,trivial⟩,rfl⟩
 subst hw
 refine wp_block (loop0 hS (fun g E wr=>∃ k : Nat,k ≤ l.length ∧ g = l.length - k ∧ E = [(0,.slice al l.length cl),(3,Vp w.heap.size),(5,Vi k)] ∧ RowKit.Below w2.heap.size w2 wr ∧ atGo (p,q) l 0 = atGo (p,q) (l.drop k) k)
  l.length ⟨0,Nat.zero_le _,rfl,rfl,RowKit.Below.refl _ _,rfl⟩ ?_)
 rintro g E wr a1 ⟨k,hk,rfl,rfl,hK,hgo⟩ hS
 replace hx:=hx.keep hK
 obtain ⟨hb,hhb⟩ : ∃ b,decide ((k : Int) < l.length) = b:=⟨_,rfl⟩
 refine wp_seq (wp_seq (seq_cut [(0,.slice al l.length cl),(3,Vp w.heap.size),(5,Vi k),(9,.bool hb)] (· = wr) tab_ok hS ?_ (fun a w5 hS hw=>?_)))
 ·repeat first|refine zP rfl ?_|refine zK rfl ?_
  refine zC rfl (hhb) ?_
  repeat first|refine zP rfl ?_|refine zK rfl ?_
  exact o_nil ⟨⟨rfl,rfl,rfl,rfl,trivial⟩,rfl⟩
 subst hw
 refine cond hS rfl (fun hT=>?_) (fun hF=>?_)
 case refine_2=>
  refine wp_exit ?_
  repeat (first | refine then_exit ?_ | refine block_exit ?_ | refine block_other rfl ?_)
  refine wp_seq (seq_cut [(4,Vi (-1))] (· = w5) tab_ok hS ?_ (fun a w6 hS hw=>?_))
  ·repeat first|refine zP rfl ?_|refine zK rfl ?_
   exact o_nil ⟨⟨rfl,trivial⟩,rfl⟩
  subst hw
  have hge : l.length ≤ k:=by have:=of_decide_eq_false (hhb.trans hF); omega
  refine wp_ret ?_
  repeat (first | refine then_ret ?_ | refine block_ret ?_)
  exact ret1 hS rfl rfl ⟨by rw [hgo,List.drop_of_length_le hge,atGo],below_trans hB hK⟩
 have hlt : k < l.length:=by have:=of_decide_eq_true (hhb.trans hT); omega
 obtain rfl:=h1 (by omega)
 obtain ⟨hc,hi1,hi2⟩:=h4 k hlt
 have hdrop:=List.drop_eq_getElem_cons hlt
 refine wp_skip ?_
 refine wp_seq (wp_block ?_)
 obtain ⟨hb2,hhb2⟩ : ∃ b,(decide (l[k].1 = p) && (decide (l[k].2 = q) && true)) = b:=⟨_,rfl⟩
 refine wp_seq (quiet_cut [(0,.slice (some ⟨bl,ol,none⟩) l.length cl),(3,Vp w.heap.size),(5,Vi k),(17,.bool hb2)] tab_ok mixed (by kernel_rfl) hS ?_ (fun a w6 hS hw=>?_))
 ·repeat first|refine qP rfl ?_|refine qK rfl ?_
  refine qI rfl (rfl) (hlt) ?_
  refine qA ([Vi l[k].1,Vi l[k].2]) rfl rfl (⟨keep hK hc.1,keep hK hc.2.1,trivial⟩) ?_
  refine qA ([Vi p,Vi q]) rfl rfl (hx.cells) ?_
  refine qQ rfl (congrArg some hhb2) ?_
  repeat first|refine qP rfl ?_|refine qK rfl ?_
  exact q_nil ⟨rfl,rfl,rfl,rfl,trivial⟩
 have hK2:=below_trans hK hw
 refine cond hS rfl (fun hT=>?_) (fun hF=>?_)
 ·refine wp_seq (seq_cut [(4,Vi k)] (· = w6) tab_ok hS ?_ (fun a w7 hS hw=>?_))
  ·repeat first|refine zP rfl ?_|refine zK rfl ?_
   exact o_nil ⟨⟨rfl,trivial⟩,rfl⟩
  subst hw
  have he : l[k] = (p,q):=by
   have:=hhb2.trans hT
   simp only [Bool.and_true,Bool.and_eq_true,decide_eq_true_eq] at this
   exact Prod.ext this.1 this.2
  refine wp_ret ?_
  repeat (first | refine then_ret ?_ | refine block_ret ?_)
  exact ret1 hS rfl rfl ⟨by rw [hgo,hdrop,atGo,if_pos he],below_trans hB hK2⟩
 have he : l[k] ≠ (p,q):=by
  have:=hhb2.trans hF
  intro h
  rw [h] at this
  simp at this
 refine wp_skip ?_
 refine block_normal ?_
 refine then_normal ?_
 refine seq_cut [(0,.slice (some ⟨bl,ol,none⟩) l.length cl),(3,Vp w.heap.size),(5,Vi (k + 1 : Nat))] (· = w6) tab_ok hS ?_ (fun a w8 hS hw8=>?_)
 ·repeat first|refine zP rfl ?_|refine zK rfl ?_
  refine zN rfl (wrap_succ (by omega)) ?_
  repeat first|refine zP rfl ?_|refine zK rfl ?_
  exact o_nil ⟨⟨rfl,rfl,rfl,trivial⟩,rfl⟩
 subst hw8
 exact ⟨l.length - (k + 1),_,by omega,⟨k + 1,by omega,rfl,rfl,hK2,by rw [hgo,hdrop,atGo,if_neg he]⟩,hS⟩
end Go.Proofs.YthcoppfiahnpoaaGreat
namespace Go.Proofs.YthcoppfiahnpoaaGreat
open Go Sym
def AcceptsC (f : Nat) : Prop:=∀ (L s : Int) (vn ve vw : Value) (next : List (List Int)) (fin : List Bool) (word : List Int) (w : World),Ma w L s next fin vn ve → Sl w vw word PInt →
 Calls Tryz.prog f #[.agg #[Vi L,Vi s,vn,ve],vw] w fun e w'=>e = .returned (.bool (acceptsM L s next fin word)) ∧ RowKit.Below w.heap.size w w'
def LeastC (f : Nat) : Prop:=∀ (L s : Int) (vn ve : Value) (next : List (List Int)) (fin : List Bool) (w : World),Ma w L s next fin vn ve → next.length ≤ 100 →
 Calls Tryz.prog f #[.agg #[Vi L,Vi s,vn,ve]] w fun e w'=>∃ (L' s' r : Int) (vn' ve' : Value) (n' : List (List Int)) (f' : List Bool),e = .returned (.tuple #[.agg #[Vi L',Vi s',vn',ve'],Vi r]) ∧ Ma w' L' s' n' f' vn' ve' ∧ RowKit.Below w.heap.size w w' ∧ LeastI L s next fin L' s' n' f' r
def DifferC (f : Nat) : Prop:=∀ (L1 s1 L2 s2 : Int) (vn1 ve1 vn2 ve2 : Value) (n1 n2 : List (List Int)) (f1 f2 : List Bool) (w : World),Ma w L1 s1 n1 f1 vn1 ve1 → Ma w L2 s2 n2 f2 vn2 ve2 → n1.length ≤ 100 → n2.length ≤ 100 →
 Calls Tryz.prog f #[.agg #[Vi L1,Vi s1,vn1,ve1],.agg #[Vi L2,Vi s2,vn2,ve2]] w fun e w'=>∃ (vw : Value) (word : List Nat) (b : Bool) (r : Int),e = .returned (.tuple #[vw,.bool b,Vi r]) ∧ Sl w' vw (word.map Int.ofNat) PInt ∧ Ok vw ∧ RowKit.Below w.heap.size w w' ∧ DiffE L1 s1 n1 f1 L2 s2 n2 f2 word b r
def RelateC (f : Nat) : Prop:=∀ (L1 s1 L2 s2 : Int) (vn1 ve1 vn2 ve2 : Value) (n1 n2 : List (List Int)) (f1 f2 : List Bool) (w : World),Ma w L1 s1 n1 f1 vn1 ve1 → Ma w L2 s2 n2 f2 vn2 ve2 → n1.length ≤ 100 → n2.length ≤ 100 →
 Calls Tryz.prog f #[.agg #[Vi L1,Vi s1,vn1,ve1],.agg #[Vi L2,Vi s2,vn2,ve2]] w fun e w'=>∃ (vl : Value) (l : List (Int × Int)) (r : Int),e = .returned (.tuple #[vl,Vi r]) ∧ SlP w' vl l ∧ RowKit.Below w.heap.size w w' ∧ RelE L1 s1 n1 f1 L2 s2 n2 f2 l r
def CheckC (f : Nat) : Prop:=∀ (L1 s1 L2 s2 : Int) (vn1 ve1 vn2 ve2 v : Value) (n1 n2 : List (List Int)) (f1 f2 : List Bool) (l : List (Int × Int)) (w : World),Ma w L1 s1 n1 f1 vn1 ve1 → Ma w L2 s2 n2 f2 vn2 ve2 → SlP w v l →
 Calls Tryz.prog f #[.agg #[Vi L1,Vi s1,vn1,ve1],.agg #[Vi L2,Vi s2,vn2,ve2],v] w fun e w'=>e = .returned (Vi (checkM L1 s1 n1 f1 L2 s2 n2 f2 l)) ∧ RowKit.Below w.heap.size w w'
def CountC (f : Nat) : Prop:=∀ (L s len : Int) (vn ve : Value) (next : List (List Int)) (fin : List Bool) (w : World),Ma w L s next fin vn ve → I64 len → next.length ≤ 4000 →
 Calls Tryz.prog f #[.agg #[Vi L,Vi s,vn,ve],Vi len] w fun e w'=>e = .returned (.tuple #[.int .u64 (countM L s next fin len).1,Vi (countM L s next fin len).2]) ∧ RowKit.Below w.heap.size w w'
structure AwakeC : Prop where
 least : LeastC 12
 differ : DifferC 14
 relate : RelateC 15
 check : CheckC 18
 count : CountC 16
 accepts : AcceptsC 17
theorem en_even : enters Tryz.prog 13 = true:=by kernel_rfl
theorem en_aLeast : enters Tryz.prog 12 = true:=by kernel_rfl
theorem en_aDiffer : enters Tryz.prog 14 = true:=by kernel_rfl
theorem en_aRelate : enters Tryz.prog 15 = true:=by kernel_rfl
theorem en_aCheck : enters Tryz.prog 18 = true:=by kernel_rfl
theorem en_aCount : enters Tryz.prog 16 = true:=by kernel_rfl
theorem en_aAccepts : enters Tryz.prog 17 = true:=by kernel_rfl
theorem fillI2 (k : IntKind) (a b : Int) (z : Value) : Instr.fill (fun i=>some (i * 1,1)) (madeCells #[z] 2) [(0,.int k a),(1,.int k b)] = some #[.int k a,.int k b]:=by
 have h : ∀ a,(Value.int k a).cells = #[.int k a]:=fun _=>rfl
 simp [Instr.fill,madeCells,h,Array.range,Array.foldl]
 rfl
theorem fillB1 (a : Bool) (z : Value) : Instr.fill (fun i=>some (i * 1,1)) (madeCells #[z] 1) [(0,.bool a)] = some #[.bool a]:=by
 have h : ∀ b,(Value.bool b).cells = #[.bool b]:=fun _=>rfl
 simp [Instr.fill,madeCells,h,Array.range,Array.foldl]
 rfl
theorem sl_lit (w : World) (l : List Int) (n : Nat) (hn : n = l.length) (hI : ∀ x ∈ l,I64 x) (hm : l.length ≤ 9223372036854775807) : Sl (w.alloc (.cells (ints l).toArray 3)) (Vs w.heap.size n n) l PInt:=by
 subst hn
 have R:=(Rows.nil w.heap.size w).lit (Nat.le_refl _) (ints l) 3 l.length (by simp) hm
 exact (R.slI (i:=0) (xs:=l) (v:=Vs w.heap.size l.length l.length) (by simp [oI]) hI).1
theorem SlP.take {w : World} {g : Option Addr} {n c : Nat} {l : List (Int × Int)} (h : SlP w (.slice g n c) l) (k : Nat) (hk : k ≤ l.length) : SlP w (.slice g k c) (l.take k):=by
 obtain ⟨a,b,o,cap,e,h1,h2,h3,h4⟩:=h
 simp only [Value.slice.injEq] at e
 obtain ⟨rfl,rfl,rfl⟩:=e
 have hl : (l.take k).length = k:=by simp; omega
 exact ⟨g,b,o,c,by rw [hl],fun h0=>h1 (by omega),by omega,h3,fun i hi=>by
  have hi' : i < l.length:=by omega
  rw [List.getElem_take]
  exact h4 i hi'⟩
theorem SlP.len {w : World} {v : Value} {l : List (Int × Int)} (h : SlP w v l) : ∃ g c,v = .slice g l.length c ∧ l.length ≤ c:=by
 obtain ⟨a,b,o,cap,e,h1,h2,h3,h4⟩:=h
 exact ⟨a,cap,e,h2⟩
theorem awake_r3 (C : AwakeC) {w : World} {M1 M2 : Nat} {vn2 ve2 : Value} (hx2 : Box w M2 1 0 vn2 ve2) (hm2 : Ma w 1 0 allN allF vn2 ve2)
  {Q : Exit → Act → World → Prop} {a : Act} {ops : Array Oper} {id : Nat} (hops : Sym.regionOf Tryz.f5.body 3 = some (id,ops))
  (hS : St Tryz.f5.ntmps a [(1,Vp M1),(2,Vi 0),(3,Vp M2)])
  (hq : ∀ vw a' w',St Tryz.f5.ntmps a' [(1,Vp M1),(2,Vi 0),(4,vw),(5,.bool false),(6,Vi 0)] → RowKit.Below w.heap.size w w' ∧ Sl w' vw [0] PInt → Q .normal a' w') : (Code.region id ops true).wp Tryz.prog Q a w:=by
 cases hops
 refine any_cutx (α:=Value) 10 (fun vw=>[(1,Vp M1),(2,Vi 0),(4,vw),(5,.bool false),(6,Vi 0)]) (fun vw w'=>RowKit.Below w.heap.size w w' ∧ Sl w' vw [0] PInt) mixed hS ?_ hq
 have hy : RowKit.Below w.drew.heap.size w.drew w.drew:=RowKit.Below.refl _ _
 have hkm:=fun w1 (h : RowKit.Below w.drew.heap.size w.drew w1)=>hm2.keep (show RowKit.Below w.heap.size w w1 from undrew h)
 refine yT 1 tab_ok rfl (by kernel_rfl) hy rfl (Exists.intro ([Vi 1,Vi 0,vn2,ve2]) (And.intro rfl (And.intro (hx2.cells) rfl))) ?_
 refine y_one 0 (by kernel_rfl) (y_op 0 tab_ok rfl rfl rfl rfl ?_)
 refine And.intro en_even ((even_any _).mono ?_)
 rintro e w1 ⟨vn,ve,rfl,hm1,h1⟩
 refine ⟨_,rfl,?_⟩
 refine And.intro (.inr h1) ?_
 refine y_one 2 (by kernel_rfl) (y_op 2 tab_ok rfl rfl rfl rfl ?_)
 refine And.intro en_aDiffer ((C.differ 1 0 1 0 vn ve vn2 ve2 evenN allN evenF allF w1 hm1 (hkm w1 h1) (by decide) (by decide)).mono ?_)
 rintro e w2 ⟨vw,word,b,r,rfl,hs2,_,h2,hI⟩
 obtain ⟨rfl,rfl,rfl⟩:=even_differ hI
 refine ⟨_,rfl,?_⟩
 have hy2:=below_trans h1 h2
 refine And.intro (.inr hy2) ?_
 refine yT 3 tab_ok rfl (by kernel_rfl) hy2 rfl (rfl) ?_
 refine yT 4 tab_ok rfl (by kernel_rfl) hy2 rfl (rfl) ?_
 refine yT 5 tab_ok rfl (by kernel_rfl) hy2 rfl (rfl) ?_
 refine yT 6 tab_ok rfl (by kernel_rfl) hy2 rfl (rfl) ?_
 refine yT 7 tab_ok rfl (by kernel_rfl) hy2 rfl (rfl) ?_
 refine yT 8 tab_ok rfl (by kernel_rfl) hy2 rfl (rfl) ?_
 refine yT 9 tab_ok rfl (by kernel_rfl) hy2 rfl (rfl) ?_
 exact y_endx _ (by kernel_rfl) ⟨rfl,rfl,rfl,rfl,rfl,trivial⟩ ⟨undrew hy2,hs2⟩
theorem awake_r4 (C : AwakeC) {w : World} {M1 : Nat} {vn1 ve1 vw : Value} (hx1 : Box w M1 1 0 vn1 ve1) (hm1 : Ma w 1 0 twoN twoF vn1 ve1)
  {Q : Exit → Act → World → Prop} {a : Act} {ops : Array Oper} {id : Nat} (hops : Sym.regionOf Tryz.f5.body 4 = some (id,ops))
  (hS : St Tryz.f5.ntmps a [(1,Vp M1),(2,Vi 0),(4,vw),(5,.bool false),(6,Vi 0)])
  (hq : ∀ vl a' w',St Tryz.f5.ntmps a' [(1,Vp M1),(2,Vi 0),(4,vw),(5,.bool false),(6,Vi 0),(7,vl),(8,Vi 0)] → RowKit.Below w.heap.size w w' ∧ SlP w' vl evenP → Q .normal a' w') : (Code.region id ops true).wp Tryz.prog Q a w:=by
 cases hops
 refine any_cutx (α:=Value) 8 (fun vl=>[(1,Vp M1),(2,Vi 0),(4,vw),(5,.bool false),(6,Vi 0),(7,vl),(8,Vi 0)]) (fun vl w'=>RowKit.Below w.heap.size w w' ∧ SlP w' vl evenP) mixed hS ?_ hq
 have hy : RowKit.Below w.drew.heap.size w.drew w.drew:=RowKit.Below.refl _ _
 have hkm:=fun w1 (h : RowKit.Below w.drew.heap.size w.drew w1)=>hm1.keep (show RowKit.Below w.heap.size w w1 from undrew h)
 refine yT 1 tab_ok rfl (by kernel_rfl) hy rfl (Exists.intro ([Vi 1,Vi 0,vn1,ve1]) (And.intro rfl (And.intro (hx1.cells) rfl))) ?_
 refine y_one 0 (by kernel_rfl) (y_op 0 tab_ok rfl rfl rfl rfl ?_)
 refine And.intro en_even ((even_any _).mono ?_)
 rintro e w1 ⟨vn,ve,rfl,hme,h1⟩
 refine ⟨_,rfl,?_⟩
 refine And.intro (.inr h1) ?_
 refine y_one 2 (by kernel_rfl) (y_op 2 tab_ok rfl rfl rfl rfl ?_)
 refine And.intro en_aRelate ((C.relate 1 0 1 0 vn ve vn1 ve1 evenN twoN evenF twoF w1 hme (hkm w1 h1) (by decide) (by decide)).mono ?_)
 rintro e w2 ⟨vl,l,r,rfl,hs2,h2,hI⟩
 obtain ⟨rfl,rfl⟩:=even_relate hI
 refine ⟨_,rfl,?_⟩
 have hy2:=below_trans h1 h2
 refine And.intro (.inr hy2) ?_
 refine yT 3 tab_ok rfl (by kernel_rfl) hy2 rfl (rfl) ?_
 refine yT 4 tab_ok rfl (by kernel_rfl) hy2 rfl (rfl) ?_
 refine yT 5 tab_ok rfl (by kernel_rfl) hy2 rfl (rfl) ?_
 refine yT 6 tab_ok rfl (by kernel_rfl) hy2 rfl (rfl) ?_
 refine yT 7 tab_ok rfl (by kernel_rfl) hy2 rfl (rfl) ?_
 exact y_endx _ (by kernel_rfl) ⟨rfl,rfl,rfl,rfl,rfl,rfl,rfl,trivial⟩ ⟨undrew hy2,hs2⟩
set_option maxHeartbeats 2000000 in
theorem awake_r8 (C : AwakeC) {w : World} {M1 : Nat} {vn1 ve1 vl : Value} (hx1 : Box w M1 1 0 vn1 ve1) (hm1 : Ma w 1 0 twoN twoF vn1 ve1) (hl : SlP w vl evenP)
  {Q : Exit → Act → World → Prop} {a : Act} {ops : Array Oper} {id : Nat} (hops : Sym.regionOf Tryz.f5.body 8 = some (id,ops))
  (hS : St Tryz.f5.ntmps a [(1,Vp M1),(7,vl),(74,.bool false)])
  (hq : ∀ a' w',St Tryz.f5.ntmps a' [(0,.bool true)] → RowKit.Below w.heap.size w w' → Q .normal a' w') : (Code.region id ops true).wp Tryz.prog Q a w:=by
 cases hops
 refine any_cut 25 [(0,.bool true)] (fun w'=>RowKit.Below w.heap.size w w') mixed hS ?_ hq
 have hy : RowKit.Below w.drew.heap.size w.drew w.drew:=RowKit.Below.refl _ _
 have hkm:=fun w1 (h : RowKit.Below w.drew.heap.size w.drew w1)=>hm1.keep (show RowKit.Below w.heap.size w w1 from undrew h)
 have hkl:=fun w1 (h : RowKit.Below w.drew.heap.size w.drew w1)=>hl.keep (show RowKit.Below w.heap.size w w1 from undrew h)
 obtain ⟨gl,cl,rfl,hcl⟩:=hl.len
 have hcl : 3 ≤ cl:=hcl
 refine y_two 0 1 (by kernel_rfl) (y_op 0 tab_ok rfl rfl rfl rfl ?_) (y_op 1 tab_ok rfl rfl rfl rfl ?_)
 ·
  refine And.intro en_even ((even_any _).mono ?_)
  rintro e wA1 ⟨vnA,veA,rfl,hmA,hA1⟩
  refine ⟨_,rfl,?_⟩
  have hyA1:=below_trans hy hA1
  refine And.intro (.inr hyA1) ?_
  refine y_one 1 (by kernel_rfl) (y_op 1 tab_ok rfl rfl rfl rfl ?_)
  refine Exists.intro [(0,Vi 0),(1,Vi 0)] (Exists.intro _ (And.intro (And.intro rfl rfl) (And.intro (by decide) (And.intro (fillI2 ..) ?_))))
  have hyA2:=hyA1.alloc hyA1.size (.cells #[Vi 0,Vi 0] 3)
  refine And.intro (.inr hyA2) ?_
  have hsA : Sl _ (Vs wA1.heap.size 2 2) [0,0] PInt:=sl_lit wA1 [0,0] 2 rfl (by simp [I64]) (by decide)
  replace hmA:=hmA.keep (below_alloc wA1 (.cells #[Vi 0,Vi 0] 3))
  refine y_one 2 (by kernel_rfl) (y_op 2 tab_ok rfl rfl rfl rfl ?_)
  have hacA:=C.accepts 1 0 vnA veA _ evenN evenF [0,0] _ hmA hsA
  rw [even_accepts2] at hacA
  refine And.intro en_aAccepts (hacA.mono ?_)
  rintro e wA3 ⟨rfl,hA3⟩
  refine ⟨_,rfl,?_⟩
  have hyA3:=below_trans hyA2 hA3
  refine And.intro (.inr hyA3) ?_
  refine yT 3 tab_ok rfl (by kernel_rfl) hyA3 rfl (rfl) ?_
  refine y_two 4 5 (by kernel_rfl) (y_op 4 tab_ok rfl rfl rfl rfl ?_) (y_op 5 tab_ok rfl rfl rfl rfl ?_)
  ·
   refine And.intro en_even ((even_any _).mono ?_)
   rintro e wB1 ⟨vnB,veB,rfl,hmB,hB1⟩
   refine ⟨_,rfl,?_⟩
   have hyB1:=below_trans hyA3 hB1
   refine And.intro (.inr hyB1) ?_
   refine y_one 5 (by kernel_rfl) (y_op 5 tab_ok rfl rfl rfl rfl ?_)
   refine Exists.intro [(0,Vi (0))] (Exists.intro #[Vi (0)] (And.intro (And.intro rfl rfl) (And.intro (by decide) (And.intro (fillI _ _ _) ?_))))
   have hyB2:=hyB1.alloc hyB1.size (.cells #[Vi 0] 3)
   refine And.intro (.inr hyB2) ?_
   have hsB : Sl _ (Vs wB1.heap.size 1 1) [0] PInt:=sl_lit wB1 [0] 1 rfl (by simp [I64]) (by decide)
   replace hmB:=hmB.keep (below_alloc wB1 (.cells #[Vi 0] 3))
   refine y_one 6 (by kernel_rfl) (y_op 6 tab_ok rfl rfl rfl rfl ?_)
   have hacB:=C.accepts 1 0 vnB veB _ evenN evenF [0] _ hmB hsB
   rw [even_accepts1] at hacB
   refine And.intro en_aAccepts (hacB.mono ?_)
   rintro e wB3 ⟨rfl,hB3⟩
   refine ⟨_,rfl,?_⟩
   have hyB3:=below_trans hyB2 hB3
   refine And.intro (.inr hyB3) ?_
   refine yT 7 tab_ok rfl (by kernel_rfl) hyB3 rfl (rfl) ?_
   refine yT 8 tab_ok rfl (by kernel_rfl) hyB3 rfl (rfl) ?_
   refine yT 9 tab_ok rfl (by kernel_rfl) hyB3 rfl (rfl) ?_
   refine yT 11 tab_ok rfl (by kernel_rfl) hyB3 rfl (Exists.intro ([Vi 1,Vi 0,vn1,ve1]) (And.intro rfl (And.intro (hx1.cells) rfl))) ?_
   refine yT 12 tab_ok rfl (by kernel_rfl) hyB3 rfl (rfl) ?_
   refine y_one 10 (by kernel_rfl) (y_op 10 tab_ok rfl rfl rfl rfl ?_)
   refine And.intro en_even ((even_any _).mono ?_)
   rintro e wC1 ⟨vnC,veC,rfl,hmC,hC1⟩
   refine ⟨_,rfl,?_⟩
   have hyC1:=below_trans hyB3 hC1
   refine And.intro (.inr hyC1) ?_
   refine y_one 13 (by kernel_rfl) (y_op 13 tab_ok rfl rfl rfl rfl ?_)
   have hck:=C.check 1 0 1 0 vnC veC vn1 ve1 _ evenN twoN evenF twoF evenP wC1 hmC (hkm _ hyC1) (hkl _ hyC1)
   rw [even_check3] at hck
   refine And.intro en_aCheck (hck.mono ?_)
   rintro e wC2 ⟨rfl,hC2⟩
   refine ⟨_,rfl,?_⟩
   have hyC2:=below_trans hyC1 hC2
   refine And.intro (.inr hyC2) ?_
   refine yT 14 tab_ok rfl (by kernel_rfl) hyC2 rfl (Exists.intro _ (And.intro (rfl) rfl)) ?_
   refine yT 15 tab_ok rfl (by kernel_rfl) hyC2 rfl (rfl) ?_
   refine yT 16 tab_ok rfl (by kernel_rfl) hyC2 rfl (rfl) ?_
   refine yT 18 tab_ok rfl (by kernel_rfl) hyC2 rfl (Exists.intro ([Vi 1,Vi 0,vn1,ve1]) (And.intro rfl (And.intro (hx1.cells) rfl))) ?_
   refine yT 19 tab_ok rfl (by kernel_rfl) hyC2 rfl (rfl) ?_
   refine yT 20 tab_ok rfl (by kernel_rfl) hyC2 rfl (Exists.intro 0 (Exists.intro 2 (And.intro rfl (And.intro (Exists.intro _ (Exists.intro _ (And.intro rfl rfl))) (And.intro (by decide) (And.intro (by omega) (And.intro hcl rfl))))))) ?_
   refine y_one 17 (by kernel_rfl) (y_op 17 tab_ok rfl rfl rfl rfl ?_)
   refine And.intro en_even ((even_any _).mono ?_)
   rintro e wD1 ⟨vnD,veD,rfl,hmD,hD1⟩
   refine ⟨_,rfl,?_⟩
   have hyD1:=below_trans hyC2 hD1
   refine And.intro (.inr hyD1) ?_
   refine y_one 21 (by kernel_rfl) (y_op 21 tab_ok rfl rfl rfl rfl ?_)
   have hsl : SlP wD1 (.slice (if cl = 0 then gl else gl.map (·.add (0 * 2))) (2 - 0) (cl - 0)) (evenP.take 2):=by
    have:=(hkl _ hyD1).take 2 (by decide)
    rw [if_neg (by omega)]
    cases gl <;> simpa [Addr.add] using this
   have hck2:=C.check 1 0 1 0 vnD veD vn1 ve1 _ evenN twoN evenF twoF (evenP.take 2) wD1 hmD (hkm _ hyD1) hsl
   rw [even_check2] at hck2
   refine And.intro en_aCheck (hck2.mono ?_)
   rintro e wD2 ⟨rfl,hD2⟩
   refine ⟨_,rfl,?_⟩
   have hyD2:=below_trans hyD1 hD2
   refine And.intro (.inr hyD2) ?_
   refine yT 22 tab_ok rfl (by kernel_rfl) hyD2 rfl (Exists.intro _ (And.intro (rfl) rfl)) ?_
   refine yT 23 tab_ok rfl (by kernel_rfl) hyD2 rfl (rfl) ?_
   refine yT 24 tab_ok rfl (by kernel_rfl) hyD2 rfl (rfl) ?_
   exact y_end (by kernel_rfl) ⟨rfl,trivial⟩ (undrew hyD2)
  ·
   refine Exists.intro [(0,Vi (0))] (Exists.intro #[Vi (0)] (And.intro (And.intro rfl rfl) (And.intro (by decide) (And.intro (fillI _ _ _) ?_))))
   have hyB1:=hyA3.alloc hyA3.size (.cells #[Vi 0] 3)
   refine And.intro (.inr hyB1) ?_
   have hsB : Sl _ (Vs ((wA3).heap.size) 1 1) [0] PInt:=sl_lit (wA3) [0] 1 rfl (by simp [I64]) (by decide)
   refine y_one 4 (by kernel_rfl) (y_op 4 tab_ok rfl rfl rfl rfl ?_)
   refine And.intro en_even ((even_any _).mono ?_)
   rintro e wB2 ⟨vnB,veB,rfl,hmB,hB2⟩
   refine ⟨_,rfl,?_⟩
   have hyB2:=below_trans hyB1 hB2
   refine And.intro (.inr hyB2) ?_
   replace hsB:=hsB.keep hB2 (fun _ _ h=>h)
   refine y_one 6 (by kernel_rfl) (y_op 6 tab_ok rfl rfl rfl rfl ?_)
   have hacB:=C.accepts 1 0 vnB veB _ evenN evenF [0] _ hmB hsB
   rw [even_accepts1] at hacB
   refine And.intro en_aAccepts (hacB.mono ?_)
   rintro e wB3 ⟨rfl,hB3⟩
   refine ⟨_,rfl,?_⟩
   have hyB3:=below_trans hyB2 hB3
   refine And.intro (.inr hyB3) ?_
   refine yT 7 tab_ok rfl (by kernel_rfl) hyB3 rfl (rfl) ?_
   refine yT 8 tab_ok rfl (by kernel_rfl) hyB3 rfl (rfl) ?_
   refine yT 9 tab_ok rfl (by kernel_rfl) hyB3 rfl (rfl) ?_
   refine yT 11 tab_ok rfl (by kernel_rfl) hyB3 rfl (Exists.intro ([Vi 1,Vi 0,vn1,ve1]) (And.intro rfl (And.intro (hx1.cells) rfl))) ?_
   refine yT 12 tab_ok rfl (by kernel_rfl) hyB3 rfl (rfl) ?_
   refine y_one 10 (by kernel_rfl) (y_op 10 tab_ok rfl rfl rfl rfl ?_)
   refine And.intro en_even ((even_any _).mono ?_)
   rintro e wC1 ⟨vnC,veC,rfl,hmC,hC1⟩
   refine ⟨_,rfl,?_⟩
   have hyC1:=below_trans hyB3 hC1
   refine And.intro (.inr hyC1) ?_
   refine y_one 13 (by kernel_rfl) (y_op 13 tab_ok rfl rfl rfl rfl ?_)
   have hck:=C.check 1 0 1 0 vnC veC vn1 ve1 _ evenN twoN evenF twoF evenP wC1 hmC (hkm _ hyC1) (hkl _ hyC1)
   rw [even_check3] at hck
   refine And.intro en_aCheck (hck.mono ?_)
   rintro e wC2 ⟨rfl,hC2⟩
   refine ⟨_,rfl,?_⟩
   have hyC2:=below_trans hyC1 hC2
   refine And.intro (.inr hyC2) ?_
   refine yT 14 tab_ok rfl (by kernel_rfl) hyC2 rfl (Exists.intro _ (And.intro (rfl) rfl)) ?_
   refine yT 15 tab_ok rfl (by kernel_rfl) hyC2 rfl (rfl) ?_
   refine yT 16 tab_ok rfl (by kernel_rfl) hyC2 rfl (rfl) ?_
   refine yT 18 tab_ok rfl (by kernel_rfl) hyC2 rfl (Exists.intro ([Vi 1,Vi 0,vn1,ve1]) (And.intro rfl (And.intro (hx1.cells) rfl))) ?_
   refine yT 19 tab_ok rfl (by kernel_rfl) hyC2 rfl (rfl) ?_
   refine yT 20 tab_ok rfl (by kernel_rfl) hyC2 rfl (Exists.intro 0 (Exists.intro 2 (And.intro rfl (And.intro (Exists.intro _ (Exists.intro _ (And.intro rfl rfl))) (And.intro (by decide) (And.intro (by omega) (And.intro hcl rfl))))))) ?_
   refine y_one 17 (by kernel_rfl) (y_op 17 tab_ok rfl rfl rfl rfl ?_)
   refine And.intro en_even ((even_any _).mono ?_)
   rintro e wD1 ⟨vnD,veD,rfl,hmD,hD1⟩
   refine ⟨_,rfl,?_⟩
   have hyD1:=below_trans hyC2 hD1
   refine And.intro (.inr hyD1) ?_
   refine y_one 21 (by kernel_rfl) (y_op 21 tab_ok rfl rfl rfl rfl ?_)
   have hsl : SlP wD1 (.slice (if cl = 0 then gl else gl.map (·.add (0 * 2))) (2 - 0) (cl - 0)) (evenP.take 2):=by
    have:=(hkl _ hyD1).take 2 (by decide)
    rw [if_neg (by omega)]
    cases gl <;> simpa [Addr.add] using this
   have hck2:=C.check 1 0 1 0 vnD veD vn1 ve1 _ evenN twoN evenF twoF (evenP.take 2) wD1 hmD (hkm _ hyD1) hsl
   rw [even_check2] at hck2
   refine And.intro en_aCheck (hck2.mono ?_)
   rintro e wD2 ⟨rfl,hD2⟩
   refine ⟨_,rfl,?_⟩
   have hyD2:=below_trans hyD1 hD2
   refine And.intro (.inr hyD2) ?_
   refine yT 22 tab_ok rfl (by kernel_rfl) hyD2 rfl (Exists.intro _ (And.intro (rfl) rfl)) ?_
   refine yT 23 tab_ok rfl (by kernel_rfl) hyD2 rfl (rfl) ?_
   refine yT 24 tab_ok rfl (by kernel_rfl) hyD2 rfl (rfl) ?_
   exact y_end (by kernel_rfl) ⟨rfl,trivial⟩ (undrew hyD2)
 ·
  refine Exists.intro [(0,Vi 0),(1,Vi 0)] (Exists.intro _ (And.intro (And.intro rfl rfl) (And.intro (by decide) (And.intro (fillI2 ..) ?_))))
  have hyA1:=hy.alloc hy.size (.cells #[Vi 0,Vi 0] 3)
  refine And.intro (.inr hyA1) ?_
  have hsA : Sl _ (Vs ((w.drew).heap.size) 2 2) [0,0] PInt:=sl_lit (w.drew) [0,0] 2 rfl (by simp [I64]) (by decide)
  refine y_one 0 (by kernel_rfl) (y_op 0 tab_ok rfl rfl rfl rfl ?_)
  refine And.intro en_even ((even_any _).mono ?_)
  rintro e wA2 ⟨vnA,veA,rfl,hmA,hA2⟩
  refine ⟨_,rfl,?_⟩
  have hyA2:=below_trans hyA1 hA2
  refine And.intro (.inr hyA2) ?_
  replace hsA:=hsA.keep hA2 (fun _ _ h=>h)
  refine y_one 2 (by kernel_rfl) (y_op 2 tab_ok rfl rfl rfl rfl ?_)
  have hacA:=C.accepts 1 0 vnA veA _ evenN evenF [0,0] _ hmA hsA
  rw [even_accepts2] at hacA
  refine And.intro en_aAccepts (hacA.mono ?_)
  rintro e wA3 ⟨rfl,hA3⟩
  refine ⟨_,rfl,?_⟩
  have hyA3:=below_trans hyA2 hA3
  refine And.intro (.inr hyA3) ?_
  refine yT 3 tab_ok rfl (by kernel_rfl) hyA3 rfl (rfl) ?_
  refine y_two 4 5 (by kernel_rfl) (y_op 4 tab_ok rfl rfl rfl rfl ?_) (y_op 5 tab_ok rfl rfl rfl rfl ?_)
  ·
   refine And.intro en_even ((even_any _).mono ?_)
   rintro e wB1 ⟨vnB,veB,rfl,hmB,hB1⟩
   refine ⟨_,rfl,?_⟩
   have hyB1:=below_trans hyA3 hB1
   refine And.intro (.inr hyB1) ?_
   refine y_one 5 (by kernel_rfl) (y_op 5 tab_ok rfl rfl rfl rfl ?_)
   refine Exists.intro [(0,Vi (0))] (Exists.intro #[Vi (0)] (And.intro (And.intro rfl rfl) (And.intro (by decide) (And.intro (fillI _ _ _) ?_))))
   have hyB2:=hyB1.alloc hyB1.size (.cells #[Vi 0] 3)
   refine And.intro (.inr hyB2) ?_
   have hsB : Sl _ (Vs wB1.heap.size 1 1) [0] PInt:=sl_lit wB1 [0] 1 rfl (by simp [I64]) (by decide)
   replace hmB:=hmB.keep (below_alloc wB1 (.cells #[Vi 0] 3))
   refine y_one 6 (by kernel_rfl) (y_op 6 tab_ok rfl rfl rfl rfl ?_)
   have hacB:=C.accepts 1 0 vnB veB _ evenN evenF [0] _ hmB hsB
   rw [even_accepts1] at hacB
   refine And.intro en_aAccepts (hacB.mono ?_)
   rintro e wB3 ⟨rfl,hB3⟩
   refine ⟨_,rfl,?_⟩
   have hyB3:=below_trans hyB2 hB3
   refine And.intro (.inr hyB3) ?_
   refine yT 7 tab_ok rfl (by kernel_rfl) hyB3 rfl (rfl) ?_
   refine yT 8 tab_ok rfl (by kernel_rfl) hyB3 rfl (rfl) ?_
   refine yT 9 tab_ok rfl (by kernel_rfl) hyB3 rfl (rfl) ?_
   refine yT 11 tab_ok rfl (by kernel_rfl) hyB3 rfl (Exists.intro ([Vi 1,Vi 0,vn1,ve1]) (And.intro rfl (And.intro (hx1.cells) rfl))) ?_
   refine yT 12 tab_ok rfl (by kernel_rfl) hyB3 rfl (rfl) ?_
   refine y_one 10 (by kernel_rfl) (y_op 10 tab_ok rfl rfl rfl rfl ?_)
   refine And.intro en_even ((even_any _).mono ?_)
   rintro e wC1 ⟨vnC,veC,rfl,hmC,hC1⟩
   refine ⟨_,rfl,?_⟩
   have hyC1:=below_trans hyB3 hC1
   refine And.intro (.inr hyC1) ?_
   refine y_one 13 (by kernel_rfl) (y_op 13 tab_ok rfl rfl rfl rfl ?_)
   have hck:=C.check 1 0 1 0 vnC veC vn1 ve1 _ evenN twoN evenF twoF evenP wC1 hmC (hkm _ hyC1) (hkl _ hyC1)
   rw [even_check3] at hck
   refine And.intro en_aCheck (hck.mono ?_)
   rintro e wC2 ⟨rfl,hC2⟩
   refine ⟨_,rfl,?_⟩
   have hyC2:=below_trans hyC1 hC2
   refine And.intro (.inr hyC2) ?_
   refine yT 14 tab_ok rfl (by kernel_rfl) hyC2 rfl (Exists.intro _ (And.intro (rfl) rfl)) ?_
   refine yT 15 tab_ok rfl (by kernel_rfl) hyC2 rfl (rfl) ?_
   refine yT 16 tab_ok rfl (by kernel_rfl) hyC2 rfl (rfl) ?_
   refine yT 18 tab_ok rfl (by kernel_rfl) hyC2 rfl (Exists.intro ([Vi 1,Vi 0,vn1,ve1]) (And.intro rfl (And.intro (hx1.cells) rfl))) ?_
   refine yT 19 tab_ok rfl (by kernel_rfl) hyC2 rfl (rfl) ?_
   refine yT 20 tab_ok rfl (by kernel_rfl) hyC2 rfl (Exists.intro 0 (Exists.intro 2 (And.intro rfl (And.intro (Exists.intro _ (Exists.intro _ (And.intro rfl rfl))) (And.intro (by decide) (And.intro (by omega) (And.intro hcl rfl))))))) ?_
   refine y_one 17 (by kernel_rfl) (y_op 17 tab_ok rfl rfl rfl rfl ?_)
   refine And.intro en_even ((even_any _).mono ?_)
   rintro e wD1 ⟨vnD,veD,rfl,hmD,hD1⟩
   refine ⟨_,rfl,?_⟩
   have hyD1:=below_trans hyC2 hD1
   refine And.intro (.inr hyD1) ?_
   refine y_one 21 (by kernel_rfl) (y_op 21 tab_ok rfl rfl rfl rfl ?_)
   have hsl : SlP wD1 (.slice (if cl = 0 then gl else gl.map (·.add (0 * 2))) (2 - 0) (cl - 0)) (evenP.take 2):=by
    have:=(hkl _ hyD1).take 2 (by decide)
    rw [if_neg (by omega)]
    cases gl <;> simpa [Addr.add] using this
   have hck2:=C.check 1 0 1 0 vnD veD vn1 ve1 _ evenN twoN evenF twoF (evenP.take 2) wD1 hmD (hkm _ hyD1) hsl
   rw [even_check2] at hck2
   refine And.intro en_aCheck (hck2.mono ?_)
   rintro e wD2 ⟨rfl,hD2⟩
   refine ⟨_,rfl,?_⟩
   have hyD2:=below_trans hyD1 hD2
   refine And.intro (.inr hyD2) ?_
   refine yT 22 tab_ok rfl (by kernel_rfl) hyD2 rfl (Exists.intro _ (And.intro (rfl) rfl)) ?_
   refine yT 23 tab_ok rfl (by kernel_rfl) hyD2 rfl (rfl) ?_
   refine yT 24 tab_ok rfl (by kernel_rfl) hyD2 rfl (rfl) ?_
   exact y_end (by kernel_rfl) ⟨rfl,trivial⟩ (undrew hyD2)
  ·
   refine Exists.intro [(0,Vi (0))] (Exists.intro #[Vi (0)] (And.intro (And.intro rfl rfl) (And.intro (by decide) (And.intro (fillI _ _ _) ?_))))
   have hyB1:=hyA3.alloc hyA3.size (.cells #[Vi 0] 3)
   refine And.intro (.inr hyB1) ?_
   have hsB : Sl _ (Vs ((wA3).heap.size) 1 1) [0] PInt:=sl_lit (wA3) [0] 1 rfl (by simp [I64]) (by decide)
   refine y_one 4 (by kernel_rfl) (y_op 4 tab_ok rfl rfl rfl rfl ?_)
   refine And.intro en_even ((even_any _).mono ?_)
   rintro e wB2 ⟨vnB,veB,rfl,hmB,hB2⟩
   refine ⟨_,rfl,?_⟩
   have hyB2:=below_trans hyB1 hB2
   refine And.intro (.inr hyB2) ?_
   replace hsB:=hsB.keep hB2 (fun _ _ h=>h)
   refine y_one 6 (by kernel_rfl) (y_op 6 tab_ok rfl rfl rfl rfl ?_)
   have hacB:=C.accepts 1 0 vnB veB _ evenN evenF [0] _ hmB hsB
   rw [even_accepts1] at hacB
   refine And.intro en_aAccepts (hacB.mono ?_)
   rintro e wB3 ⟨rfl,hB3⟩
   refine ⟨_,rfl,?_⟩
   have hyB3:=below_trans hyB2 hB3
   refine And.intro (.inr hyB3) ?_
   refine yT 7 tab_ok rfl (by kernel_rfl) hyB3 rfl (rfl) ?_
   refine yT 8 tab_ok rfl (by kernel_rfl) hyB3 rfl (rfl) ?_
   refine yT 9 tab_ok rfl (by kernel_rfl) hyB3 rfl (rfl) ?_
   refine yT 11 tab_ok rfl (by kernel_rfl) hyB3 rfl (Exists.intro ([Vi 1,Vi 0,vn1,ve1]) (And.intro rfl (And.intro (hx1.cells) rfl))) ?_
   refine yT 12 tab_ok rfl (by kernel_rfl) hyB3 rfl (rfl) ?_
   refine y_one 10 (by kernel_rfl) (y_op 10 tab_ok rfl rfl rfl rfl ?_)
   refine And.intro en_even ((even_any _).mono ?_)
   rintro e wC1 ⟨vnC,veC,rfl,hmC,hC1⟩
   refine ⟨_,rfl,?_⟩
   have hyC1:=below_trans hyB3 hC1
   refine And.intro (.inr hyC1) ?_
   refine y_one 13 (by kernel_rfl) (y_op 13 tab_ok rfl rfl rfl rfl ?_)
   have hck:=C.check 1 0 1 0 vnC veC vn1 ve1 _ evenN twoN evenF twoF evenP wC1 hmC (hkm _ hyC1) (hkl _ hyC1)
   rw [even_check3] at hck
   refine And.intro en_aCheck (hck.mono ?_)
   rintro e wC2 ⟨rfl,hC2⟩
   refine ⟨_,rfl,?_⟩
   have hyC2:=below_trans hyC1 hC2
   refine And.intro (.inr hyC2) ?_
   refine yT 14 tab_ok rfl (by kernel_rfl) hyC2 rfl (Exists.intro _ (And.intro (rfl) rfl)) ?_
   refine yT 15 tab_ok rfl (by kernel_rfl) hyC2 rfl (rfl) ?_
   refine yT 16 tab_ok rfl (by kernel_rfl) hyC2 rfl (rfl) ?_
   refine yT 18 tab_ok rfl (by kernel_rfl) hyC2 rfl (Exists.intro ([Vi 1,Vi 0,vn1,ve1]) (And.intro rfl (And.intro (hx1.cells) rfl))) ?_
   refine yT 19 tab_ok rfl (by kernel_rfl) hyC2 rfl (rfl) ?_
   refine yT 20 tab_ok rfl (by kernel_rfl) hyC2 rfl (Exists.intro 0 (Exists.intro 2 (And.intro rfl (And.intro (Exists.intro _ (Exists.intro _ (And.intro rfl rfl))) (And.intro (by decide) (And.intro (by omega) (And.intro hcl rfl))))))) ?_
   refine y_one 17 (by kernel_rfl) (y_op 17 tab_ok rfl rfl rfl rfl ?_)
   refine And.intro en_even ((even_any _).mono ?_)
   rintro e wD1 ⟨vnD,veD,rfl,hmD,hD1⟩
   refine ⟨_,rfl,?_⟩
   have hyD1:=below_trans hyC2 hD1
   refine And.intro (.inr hyD1) ?_
   refine y_one 21 (by kernel_rfl) (y_op 21 tab_ok rfl rfl rfl rfl ?_)
   have hsl : SlP wD1 (.slice (if cl = 0 then gl else gl.map (·.add (0 * 2))) (2 - 0) (cl - 0)) (evenP.take 2):=by
    have:=(hkl _ hyD1).take 2 (by decide)
    rw [if_neg (by omega)]
    cases gl <;> simpa [Addr.add] using this
   have hck2:=C.check 1 0 1 0 vnD veD vn1 ve1 _ evenN twoN evenF twoF (evenP.take 2) wD1 hmD (hkm _ hyD1) hsl
   rw [even_check2] at hck2
   refine And.intro en_aCheck (hck2.mono ?_)
   rintro e wD2 ⟨rfl,hD2⟩
   refine ⟨_,rfl,?_⟩
   have hyD2:=below_trans hyD1 hD2
   refine And.intro (.inr hyD2) ?_
   refine yT 22 tab_ok rfl (by kernel_rfl) hyD2 rfl (Exists.intro _ (And.intro (rfl) rfl)) ?_
   refine yT 23 tab_ok rfl (by kernel_rfl) hyD2 rfl (rfl) ?_
   refine yT 24 tab_ok rfl (by kernel_rfl) hyD2 rfl (rfl) ?_
   exact y_end (by kernel_rfl) ⟨rfl,trivial⟩ (undrew hyD2)
theorem awake_any (C : AwakeC) (w : World) : Calls Tryz.prog 5 #[] w fun e w'=>e = .returned (.bool true) ∧ RowKit.Below w.heap.size w w':=by
 refine Sym.enter (args:=[]) Tryz.func5 rfl rfl rfl (fun a0 hS0=>?_)
 refine wp_seq (seq_cut [(0,.bool false)] (· = w) tab_ok hS0 ?_ (fun a wc hS hw=>?_))
 ·repeat first|refine zP rfl ?_|refine zK rfl ?_
  exact o_nil ⟨⟨rfl,trivial⟩,rfl⟩
 subst hw
 refine wp_seq (seq_cutx (α:=Nat × Value × Value) (fun x=>[(1,Vp x.1),(2,Vi 0)]) (fun x w'=>RowKit.Below wc.heap.size wc w' ∧ Box w' x.1 1 0 x.2.1 x.2.2 ∧ Ma w' 1 0 twoN twoF x.2.1 x.2.2) tab_ok hS ?_ (fun x a w1 hS h1=>?_))
 ·refine zF rfl (en_even) (even_any _) ?_
  rintro e w1 ⟨vn,ve,rfl,hm1,h1⟩
  refine ⟨_,rfl,?_⟩
  refine zF rfl (en_aLeast) (C.least 1 0 vn ve evenN evenF w1 hm1 (by decide)) ?_
  rintro e w2 ⟨L',s',r,vn',ve',n',f',rfl,hm2,h2,hI⟩
  obtain ⟨rfl,rfl,rfl,rfl,rfl⟩:=even_least hI
  refine ⟨_,rfl,?_⟩
  have ho:=OwnB.new w2 [Vi 0,Vi 0,.slice none 0 0,.slice none 0 0] 25
  have hb2:=below_trans h1 h2
  have hb3:=below_trans hb2 (below_alloc w2 (.cells #[Vi 0,Vi 0,.slice none 0 0,.slice none 0 0] 25))
  have hg:=grown_sets w2.heap.size [Vi 1,Vi 0,vn',ve'] 0 (w2.alloc (.cells #[Vi 0,Vi 0,.slice none 0 0,.slice none 0 0] 25))
  have hB4:=below_of_grown (w0:=w2) (below_alloc w2 (.cells #[Vi 0,Vi 0,.slice none 0 0,.slice none 0 0] 25)) hg (fun k hk=>by cases hk; exact Nat.le_refl _)
  have hoF : OwnB _ w2.heap.size 25 [Vi 1,Vi 0,vn',ve']:=ho.sets (us:=[Vi 1,Vi 0,vn',ve']) rfl
  have hm4:=hm2.keep hB4
  obtain ⟨_,_,rfl⟩:=hm2.n.len
  obtain ⟨_,_,rfl⟩:=hm2.e.len
  repeat first|refine zP rfl ?_|refine zK rfl ?_
  refine zB rfl ?_
  refine o_step0 rfl rfl (And.intro rfl (And.intro rfl (And.intro (own_cells4 ho) ?_)))
  repeat first|refine zP rfl ?_|refine zK rfl ?_
  exact o_nil ⟨(w2.heap.size,_,_),⟨rfl,rfl,trivial⟩,below_trans hb2 hB4,⟨hoF.cell (i:=0) rfl,hoF.cell (i:=1) rfl,hoF.cell (i:=2) rfl,hoF.cell (i:=3) rfl⟩,hm4⟩
 obtain ⟨M1,vn1,ve1⟩:=x
 obtain ⟨hB,hx1,hm1⟩:=h1
 dsimp only at hS hx1 hm1
 refine wp_seq (seq_cutx (α:=Nat × Value × Value) (fun x=>[(1,Vp M1),(2,Vi 0),(3,Vp x.1)]) (fun x w'=>RowKit.Below w1.heap.size w1 w' ∧ Box w' x.1 1 0 x.2.1 x.2.2 ∧ Ma w' 1 0 allN allF x.2.1 x.2.2) tab_ok hS ?_ (fun x a w2 hS h2=>?_))
 ·have R0:=Rows.nil w1.heap.size w1
  have R1:=R0.lit (Nat.le_refl _) [Vi 0] 3 1 rfl (by decide)
  obtain ⟨w2,hw2⟩ : ∃ w2,w1.alloc (.cells #[Vi 0] 3) = w2:=⟨_,rfl⟩
  have hB2 : RowKit.Below w1.heap.size w1 w2:=by rw [← hw2]; exact below_alloc _ _
  rw [show w1.alloc (.cells [Vi 0].toArray 3) = w2 from hw2] at R1
  have R2:=R1.lit hB2.size [Vs w1.heap.size 1 1] 35 1 rfl (by decide)
  obtain ⟨w3,hw3⟩ : ∃ w3,w2.alloc (.cells #[Vs w1.heap.size 1 1] 35) = w3:=⟨_,rfl⟩
  have hB3 : RowKit.Below w1.heap.size w1 w3:=below_trans hB2 (by rw [← hw3]; exact below_alloc _ _)
  rw [show w2.alloc (.cells [Vs w1.heap.size 1 1].toArray 35) = w3 from hw3] at R2
  have R3:=R2.lit hB3.size [.bool true] 4 1 rfl (by decide)
  obtain ⟨w4,hw4⟩ : ∃ w4,w3.alloc (.cells #[.bool true] 4) = w4:=⟨_,rfl⟩
  have hB4 : RowKit.Below w1.heap.size w1 w4:=below_trans hB3 (by rw [← hw4]; exact below_alloc _ _)
  rw [show w3.alloc (.cells [Value.bool true].toArray 4) = w4 from hw4] at R3
  have hn:=R3.slRows (i:=1) (vs:=[Vs w1.heap.size 1 1]) (next:=allN) rfl rfl (fun j h1 h2=>by
   match j,h1 with
   | 0,_=>exact ⟨2,rfl,fun x hx=>by simp [allN] at hx; subst hx; exact ⟨by decide,by decide⟩⟩)
  have he:=R3.slB (i:=0) (xs:=allF) rfl
  have hma : Ma w4 1 0 allN allF (Vs w2.heap.size 1 1) (Vs w3.heap.size 1 1):=⟨hn.1,he.1,⟨by decide,by decide⟩,⟨by decide,by decide⟩,hn.2,he.2⟩
  have ho:=OwnB.new w4 [Vi 0,Vi 0,.slice none 0 0,.slice none 0 0] 25
  have hg:=grown_sets w4.heap.size [Vi 1,Vi 0,Vs w2.heap.size 1 1,Vs w3.heap.size 1 1] 0 (w4.alloc (.cells #[Vi 0,Vi 0,.slice none 0 0,.slice none 0 0] 25))
  have hB6:=below_of_grown (w0:=w4) (below_alloc w4 (.cells #[Vi 0,Vi 0,.slice none 0 0,.slice none 0 0] 25)) hg (fun k hk=>by cases hk; exact Nat.le_refl _)
  have hoF : OwnB _ w4.heap.size 25 [Vi 1,Vi 0,Vs w2.heap.size 1 1,Vs w3.heap.size 1 1]:=ho.sets (us:=[Vi 1,Vi 0,Vs w2.heap.size 1 1,Vs w3.heap.size 1 1]) rfl
  refine o_step rfl rfl rfl ?_
  refine Exists.intro [(0,Vi (0))] (Exists.intro #[Vi (0)] (And.intro (And.intro rfl rfl) (And.intro (by decide) (And.intro (fillI _ _ _) ?_))))
  rw [hw2]
  refine o_step rfl rfl rfl ?_
  refine Exists.intro [(0,Vs w1.heap.size 1 1)] (Exists.intro #[Vs w1.heap.size 1 1] (And.intro (And.intro rfl rfl) (And.intro (by decide) (And.intro (fill1 _ _ _ _) ?_))))
  rw [hw3]
  refine o_step rfl rfl rfl ?_
  refine Exists.intro [(0,.bool true)] (Exists.intro _ (And.intro (And.intro rfl rfl) (And.intro (by decide) (And.intro (fillB1 ..) ?_))))
  rw [hw4]
  repeat first|refine zP rfl ?_|refine zK rfl ?_
  refine zB rfl ?_
  refine o_step0 rfl rfl (And.intro rfl (And.intro rfl (And.intro (own_cells4 ho) ?_)))
  repeat first|refine zP rfl ?_|refine zK rfl ?_
  exact o_nil ⟨(w4.heap.size,_,_),⟨rfl,rfl,rfl,trivial⟩,below_trans hB4 hB6,⟨hoF.cell (i:=0) rfl,hoF.cell (i:=1) rfl,hoF.cell (i:=2) rfl,hoF.cell (i:=3) rfl⟩,hma.keep hB6⟩
 obtain ⟨M2,vn2,ve2⟩:=x
 obtain ⟨hB2,hx2,hm2⟩:=h2
 dsimp only at hS hx2 hm2
 replace hx1:=hx1.keep hB2
 replace hm1:=hm1.keep hB2
 replace hB:=below_trans hB hB2
 clear hB2
 refine wp_seq (awake_r3 C hx2 hm2 (by rfl) hS (fun vw a w3 hS h3=>?_))
 obtain ⟨hB3,hw3⟩:=h3
 replace hx1:=hx1.keep hB3
 replace hm1:=hm1.keep hB3
 replace hB:=below_trans hB hB3
 clear hB3 hx2 hm2
 refine wp_seq (awake_r4 C hx1 hm1 (by rfl) hS (fun vl a w4 hS h4=>?_))
 obtain ⟨hB4,hl4⟩:=h4
 replace hx1:=hx1.keep hB4
 replace hm1:=hm1.keep hB4
 replace hw3:=hw3.keep hB4 (fun _ _ h=>h)
 replace hB:=below_trans hB hB4
 clear hB4
 refine wp_seq (seq_cut [(1,Vp M1),(2,Vi 0),(4,vw),(5,.bool false),(6,Vi 0),(7,vl),(8,Vi 0),(9,.int .u64 1),(10,Vi 0)] (fun w'=>RowKit.Below w4.heap.size w4 w') tab_ok hS ?_ (fun a w5 hS hw=>?_))
 ·refine zF rfl (en_even) (even_any _) ?_
  rintro e w5 ⟨vn,ve,rfl,hm5,h5⟩
  refine ⟨_,rfl,?_⟩
  have hc:=C.count 1 0 4 vn ve evenN evenF w5 hm5 ⟨by decide,by decide⟩ (by decide)
  rw [even_count] at hc
  refine zF rfl (en_aCount) (hc) ?_
  rintro e w6 ⟨rfl,h6⟩
  refine ⟨_,rfl,?_⟩
  repeat first|refine zP rfl ?_|refine zK rfl ?_
  exact o_nil ⟨⟨rfl,rfl,rfl,rfl,rfl,rfl,rfl,rfl,rfl,trivial⟩,below_trans h5 h6⟩
 replace hx1:=hx1.keep hw
 replace hm1:=hm1.keep hw
 replace hw3:=hw3.keep hw (fun _ _ h=>h)
 replace hl4:=hl4.keep hw
 replace hB:=below_trans hB hw
 clear hw
 refine wp_seq (wp_seq (seq_cut [(1,Vp M1),(7,vl),(74,.bool false)] (· = w5) tab_ok hS ?_ (fun a w6 hS hw=>?_)))
 ·obtain ⟨gw,cw,rfl⟩:=hw3.len
  obtain ⟨gl,cl,rfl,_⟩:=hl4.len
  obtain ⟨gn,cn,hvn⟩:=hm1.n.len
  repeat first|refine zP rfl ?_|refine zK rfl ?_
  refine zC rfl (rfl) ?_
  repeat first|refine zP rfl ?_|refine zK rfl ?_
  refine zC rfl (rfl) ?_
  repeat first|refine zP rfl ?_|refine zK rfl ?_
  refine zC rfl (rfl) ?_
  repeat first|refine zP rfl ?_|refine zK rfl ?_
  refine zC rfl (rfl) ?_
  repeat first|refine zP rfl ?_|refine zK rfl ?_
  refine zL rfl (hvn ▸ hx1.c2) ?_
  repeat first|refine zP rfl ?_|refine zK rfl ?_
  refine zC rfl (rfl) ?_
  repeat first|refine zP rfl ?_|refine zK rfl ?_
  refine zC rfl (rfl) ?_
  repeat first|refine zP rfl ?_|refine zK rfl ?_
  refine zC rfl (rfl) ?_
  repeat first|refine zP rfl ?_|refine zK rfl ?_
  refine zC rfl (rfl) ?_
  repeat first|refine zP rfl ?_|refine zK rfl ?_
  exact o_nil ⟨⟨rfl,rfl,rfl,trivial⟩,rfl⟩
 subst hw
 refine cond hS rfl (fun hT=>by cases hT) (fun _=>?_)
 refine wp_skip ?_
 refine wp_seq (awake_r8 C hx1 hm1 hl4 (by rfl) hS (fun a w7 hS h7=>?_))
 refine wp_ret ?_
 repeat (first | refine then_ret ?_ | refine block_ret ?_)
 exact ret1 hS rfl rfl ⟨rfl,below_trans hB h7⟩
end Go.Proofs.YthcoppfiahnpoaaGreat
namespace Go.Proofs.YthcoppfiahnpoaaGreat
open Go Sym
theorem en_awake : enters Tryz.prog 5 = true:=by kernel_rfl
theorem MaIn.copy {w : World} {L s : Int} {next : List (List Int)} {fin : List Bool} {vn ve : Value} (h : MaIn w L s next fin vn ve) {w1 : World} (hb : RowKit.Below w.heap.size w w1) :
  Calls Tryz.prog 9 #[.agg #[Vi L,Vi s,vn,ve]] w1 fun e w'=>∃ vn' ve',e = .returned (.agg #[Vi L,Vi s,vn',ve']) ∧ OwnM w1.heap.size w' next fin vn' ve' ∧ RowKit.Below w1.heap.size w1 w':=
 copy_any L s vn ve next fin w1 (h.ma.keep hb) (Nat.le_trans h.fb (by decide)) (fun r hr=>Nat.le_trans (h.rb r hr) (by decide)) (Nat.le_trans h.nb (by decide))
end Go.Proofs.YthcoppfiahnpoaaGreat
namespace Go.Proofs.YthcoppfiahnpoaaGreat
open Go Sym
theorem en_small' : enters Tryz.prog 4 = true:=by kernel_rfl
end Go.Proofs.YthcoppfiahnpoaaGreat
namespace Go.Proofs.YthcoppfiahnpoaaGreat
open Go Sym
end Go.Proofs.YthcoppfiahnpoaaGreat
namespace Go.Proofs.YthcoppfiahnpoaaGreat
open Go Sym
def pairCells (l : List (Int × Int)) : List Value:=l.flatMap fun p=>[Vi p.1,Vi p.2]
theorem pairCells_len (l : List (Int × Int)) : (pairCells l).length = l.length * 2:=by
 induction l with
 | nil=>rfl
 | cons p r ih=>simp only [pairCells,List.flatMap_cons,List.length_append,List.length_cons,List.length_nil] at ih ⊢; omega
theorem pairCells_append (l : List (Int × Int)) (p : Int × Int) : pairCells l ++ [Vi p.1,Vi p.2] = pairCells (l ++ [p]):=by simp [pairCells]
def foot (Wb : Nat) (vp vl vf : Value) (k : Nat) : Prop:=k = Wb ∨ vp.ownBlock = some k ∨ vl.ownBlock = some k ∨ vf.ownBlock = some k
structure WalkI (base : Nat) (w : World) (Wb : Nat) (vp vl vf : Value) (ps : List (Int × Int)) (ls fs : List Int) : Prop where
 b : base ≤ Wb
 o : OwnB w Wb 85 [vp,vl,vf]
 p : w.ownsRow base 48 2 vp ps.length (pairCells ps)
 l : w.ownsRow base 3 1 vl ls.length (ls.map (Value.int .i64))
 f : w.ownsRow base 3 1 vf fs.length (fs.map (Value.int .i64))
 ne : vl.ownBlock = none ∨ vl.ownBlock ≠ vf.ownBlock
structure Off (w w' : World) (Wb : Nat) (vp vl vf vp' vl' vf' : Value) : Prop where
 os : w'.os = w.os
 tape : w'.tape = w.tape
 output : w'.output = w.output
 size : w.heap.size ≤ w'.heap.size
 off : ∀ k,k < w.heap.size → ¬ foot Wb vp vl vf k → w'.heap[k]? = w.heap[k]? ∧ ¬ foot Wb vp' vl' vf' k
theorem Off.trans {w w1 w2 : World} {Wb : Nat} {vp vl vf vp1 vl1 vf1 vp2 vl2 vf2 : Value} (h : Off w w1 Wb vp vl vf vp1 vl1 vf1) (k : Off w1 w2 Wb vp1 vl1 vf1 vp2 vl2 vf2) : Off w w2 Wb vp vl vf vp2 vl2 vf2:=
 ⟨k.os.trans h.os,k.tape.trans h.tape,k.output.trans h.output,Nat.le_trans h.size k.size,fun i hi hn=>by
  obtain ⟨h1,h2⟩:=h.off i hi hn
  obtain ⟨h3,h4⟩:=k.off i (Nat.lt_of_lt_of_le hi h.size) h2
  exact ⟨h3.trans h1,h4⟩⟩
theorem Off.below {w w' : World} {Wb : Nat} {vp vl vf vp' vl' vf' : Value} (h : RowKit.Below w.heap.size w w') (hv : ∀ k,k < w.heap.size → ¬ foot Wb vp vl vf k → ¬ foot Wb vp' vl' vf' k) : Off w w' Wb vp vl vf vp' vl' vf':=
 ⟨h.os,h.tape,h.output,h.size,fun k hk hn=>⟨h.block k hk,hv k hk hn⟩⟩
theorem WalkI.keep {base : Nat} {w w' : World} {Wb : Nat} {vp vl vf : Value} {ps : List (Int × Int)} {ls fs : List Int} (h : WalkI base w Wb vp vl vf ps ls fs) (hb : RowKit.Below w.heap.size w w') : WalkI base w' Wb vp vl vf ps ls fs:=by
 have hg : w.grownBy w' none:=⟨hb.os,hb.tape,hb.output,hb.size,fun k hk _=>hb.block k hk⟩
 have ho : ∀ v : Value,v.ownBlock = none ∨ v.ownBlock ≠ none:=fun v=>by
  cases v.ownBlock
  ·exact .inl rfl
  ·exact .inr (by simp)
 exact ⟨h.b,h.o.keep hb h.o.lt,h.p.kept hg (ho _),h.l.kept hg (ho _),h.f.kept hg (ho _),h.ne⟩
theorem fill2 (a b : Value) (cs : Array Value) (hs : cs.size = 2) : Instr.fill (fun i=>some (i * 2,2)) (madeCells cs 2) [(0,.agg #[a,b])] = some #[a,b]:=by
 have h : (Value.agg #[a,b]).cells = #[a,b]:=rfl
 simp [Instr.fill,madeCells,h,hs,Array.range,Array.foldl]
 rfl
theorem none_or (v : Value) : v.ownBlock = none ∨ v.ownBlock ≠ none:=by
 cases v.ownBlock
 ·exact .inl rfl
 ·exact .inr (by simp)
theorem put_r2 {base : Nat} {w : World} {Wb B : Nat} {vp vl vf : Value} {ps : List (Int × Int)} {ls fs : List Int} {p q l fr : Int} (hW : WalkI base w Wb vp vl vf ps ls fs) (hp : BoxP w B p q) (hb : base ≤ w.heap.size) (hn : ps.length < 100000000)
  {Q : Exit → Act → World → Prop} {a : Act} {ops : Array Oper} {id : Nat} (hops : Sym.regionOf Tryz.f77.body 2 = some (id,ops))
  (hS : St Tryz.f77.ntmps a [(0,Vp Wb),(2,Vi l),(3,Vi fr),(5,Vp B)])
  (hq : ∀ vp' a' w',St Tryz.f77.ntmps a' [(0,Vp Wb),(2,Vi l),(3,Vi fr),(5,Vp B)] → WalkI base w' Wb vp' vl vf (ps ++ [(p,q)]) ls fs ∧ Off w w' Wb vp vl vf vp' vl vf → Q .normal a' w') : (Code.region id ops true).wp Tryz.prog Q a w:=by
 cases hops
 refine any_cutx (α:=Value) 7 (fun _=>[(0,Vp Wb),(2,Vi l),(3,Vi fr),(5,Vp B)]) (fun vp' w'=>WalkI base w' Wb vp' vl vf (ps ++ [(p,q)]) ls fs ∧ Off w w' Wb vp vl vf vp' vl vf) mixed hS ?_ hq
 have hy : RowKit.Below w.drew.heap.size w.drew w.drew:=RowKit.Below.refl _ _
 have hD : WalkI base w.drew Wb vp vl vf ps ls fs:=⟨hW.b,hW.o,hW.p,hW.l,hW.f,hW.ne⟩
 have hpD : BoxP w.drew B p q:=⟨hp.c0,hp.c1⟩
 obtain ⟨g,n,c,hv⟩:=own_form hD.p
 subst hv
 refine yG 0 tab_ok rfl (by kernel_rfl) (.inr hy) rfl rfl ?_
 refine yT 1 tab_ok rfl (by kernel_rfl) hy rfl (rfl) ?_
 refine yT 2 tab_ok rfl (by kernel_rfl) hy rfl (rfl) ?_
 refine yT 3 tab_ok rfl (by kernel_rfl) hy rfl (rfl) ?_
 refine yL 4 tab_ok rfl (by kernel_rfl) hy rfl rfl (hD.o.cell (i:=0) rfl) ?_
 refine yT 5 tab_ok rfl (by kernel_rfl) hy rfl (Exists.intro ([Vi p,Vi q]) (And.intro rfl (And.intro (hpD.cells) rfl))) ?_
 refine y_one 6 (by kernel_rfl) (y_op 6 tab_ok rfl rfl rfl rfl ?_)
 refine Exists.intro [(0,.agg #[Vi p, Vi q])] (Exists.intro #[Vi p, Vi q] (And.intro (And.intro rfl rfl) (And.intro (by decide) (And.intro (fill2 _ _ _ rfl) ?_))))
 have hy1:=hy.alloc (Nat.le_refl _) (.cells #[Vi p,Vi q] 48)
 refine And.intro (.inr hy1) ?_
 have hA : WalkI base (w.drew.alloc (.cells #[Vi p,Vi q] 48)) Wb _ vl vf ps ls fs:=hD.keep hy1
 have ask : AppAsk (w.drew.alloc (.cells #[Vi p,Vi q] 48)) ⟨48,.struct [(0,3),(1,3)],2,16,.agg #[Vi 0,Vi 0]⟩ (.slice g n c) ps.length (pairCells ps) (Vs w.drew.heap.size 1 1) 1 [Vi p,Vi q] base:=
  ⟨hA.p,.inr ⟨_,0,_,rfl,cell_alloc_new rfl,cell_alloc_new rfl,trivial⟩,rfl,(by simp [Value.oneCell']),(by omega),(by show (ps.length + 1) * 16 ≤ _; omega),Nat.le_trans hb hy1.size⟩
 refine y_one 7 (by kernel_rfl) (y_op 7 tab_ok rfl rfl rfl rfl ?_)
 refine Exists.intro _ (Exists.intro _ (Exists.intro _ (Exists.intro _ (Exists.intro _ (And.intro (ask) (And.intro (fun _ h=>h.symm) (And.intro (by decide) ?_)))))))
 rintro v' w2 hown hgr - hat
 refine And.intro (.inl (by kernel_rfl)) ?_
 obtain ⟨g2,n2,c2,hv⟩:=own_form hown
 subst hv
 refine yG 8 tab_ok rfl (by kernel_rfl) (.inl (by kernel_rfl)) rfl rfl ?_
 refine yG 9 tab_ok rfl (by kernel_rfl) (.inl (by kernel_rfl)) rfl rfl ?_
 refine y_one 10 (by kernel_rfl) (y_op0 10 tab_ok rfl rfl rfl ?_)
 have ho:=hA.o.kept hgr (own_neB hA.p hA.o (by decide))
 refine And.intro rfl (And.intro rfl (And.intro ⟨_,ho.cell (i:=0) rfl⟩ (And.intro (ho.free 0) (And.intro (.inl (by kernel_rfl)) ?_))))
 have hg:=grown_set w2 Wb 0 (.slice g2 n2 c2)
 have hnb : ∀ {e s q : Nat} {v : Value} {xs : List Value},w2.ownsRow base e s v q xs → e ≠ 85 → v.ownBlock = none ∨ v.ownBlock ≠ some Wb:=fun h he=>.inr (fun hh=>own_neB h ho he hh.symm)
 refine y_endx (.slice g2 n2 c2) (by kernel_rfl) ⟨rfl,rfl,rfl,rfl,trivial⟩ (show WalkI base (w2.setCell ⟨Wb,0,none⟩ (.slice g2 n2 c2)) Wb (.slice g2 n2 c2) vl vf (ps ++ [(p,q)]) ls fs ∧ Off w (w2.setCell ⟨Wb,0,none⟩ (.slice g2 n2 c2)) Wb (.slice g n c) vl vf (.slice g2 n2 c2) vl vf from ⟨⟨hW.b,ho.set 0 _,?_,?_,?_,hW.ne⟩,?_⟩)
 ·have:=hown.kept hg (hnb hown (by decide))
  rw [pairCells_append ps (p,q)] at this
  simpa using this
 ·have:=hA.l.kept hgr (own_ne hA.p hA.l (by decide))
  exact this.kept hg (hnb this (by decide))
 ·have:=hA.f.kept hgr (own_ne hA.p hA.f (by decide))
  exact this.kept hg (hnb this (by decide))
 ·refine ⟨(hg.os.trans hgr.os).trans hy1.os,(hg.tape.trans hgr.tape).trans hy1.tape,(hg.output.trans hgr.output).trans hy1.output,Nat.le_trans (Nat.le_trans hy1.size hgr.size) hg.size,fun k hk hf=>⟨?_,?_⟩⟩
  ·have e1:=hy1.block k hk
   have e2:=hgr.block k (Nat.lt_of_lt_of_le hk hy1.size) (fun e=>hf (.inr (.inl e.symm)))
   have e3:=hg.block k (Nat.lt_of_lt_of_le (Nat.lt_of_lt_of_le hk hy1.size) hgr.size) (fun e=>hf (.inl (by simpa using e)))
   exact (e3.trans e2).trans e1
  ·rintro (h | h | h)
   ·exact hf (.inl h)
   ·rcases hat with h2 | h2
    ·exact hf (.inr (.inl (h2.symm.trans h)))
    ·rw [h2] at h
     simp only [Option.some.injEq] at h
     have:=hy1.size
     have : w.drew.heap.size = w.heap.size:=rfl
     omega
   ·exact hf (.inr (.inr h))
theorem put_r3 {base : Nat} {w : World} {Wb : Nat} {vp vl vf : Value} {ps : List (Int × Int)} {ls fs : List Int} {l fr : Int} (hW : WalkI base w Wb vp vl vf ps ls fs) (hb : base ≤ w.heap.size) (hn : ls.length < 100000000)
  {Q : Exit → Act → World → Prop} {a : Act} {ops : Array Oper} {id : Nat} (hops : Sym.regionOf Tryz.f77.body 3 = some (id,ops))
  (hS : St Tryz.f77.ntmps a [(0,Vp Wb),(2,Vi l),(3,Vi fr)])
  (hq : ∀ vl' a' w',St Tryz.f77.ntmps a' [(0,Vp Wb),(2,Vi l),(3,Vi fr)] → WalkI base w' Wb vp vl' vf ps (ls ++ [l]) fs ∧ Off w w' Wb vp vl vf vp vl' vf → Q .normal a' w') : (Code.region id ops false).wp Tryz.prog Q a w:=by
 cases hops
 refine seq_cutx (α:=Value) (fun _=>[(0,Vp Wb),(2,Vi l),(3,Vi fr)]) (fun vl' w'=>WalkI base w' Wb vp vl' vf ps (ls ++ [l]) fs ∧ Off w w' Wb vp vl vf vp vl' vf) tab_ok hS ?_ hq
 obtain ⟨g,n,c,hv⟩:=own_form hW.l
 subst hv
 repeat first|refine zP rfl ?_|refine zK rfl ?_
 refine zL rfl (hW.o.cell (i:=1) rfl) ?_
 repeat first|refine zP rfl ?_|refine zK rfl ?_
 refine o_step rfl rfl rfl ?_
 refine Exists.intro [(0,Vi (l))] (Exists.intro #[Vi (l)] (And.intro (And.intro rfl rfl) (And.intro (by decide) (And.intro (fillI _ _ _) ?_))))
 have hy1:=below_alloc w (.cells #[Vi l] 3)
 have hA : WalkI base (w.alloc (.cells #[Vi l] 3)) Wb vp _ vf ps ls fs:=hW.keep hy1
 have ask : AppAsk (w.alloc (.cells #[Vi l] 3)) ⟨3,.int .i64,1,8,Vi 0⟩ (.slice g n c) ls.length (ls.map (Value.int .i64)) (Vs w.heap.size 1 1) 1 [Vi l] base:=
  ⟨hA.l,.inr ⟨_,0,_,rfl,cell_alloc_new rfl,trivial⟩,rfl,(by simp [Value.oneCell']),(by omega),(by show (ls.length + 1) * 8 ≤ _; omega),Nat.le_trans hb hy1.size⟩
 refine o_step rfl rfl rfl ?_
 refine Exists.intro _ (Exists.intro _ (Exists.intro _ (Exists.intro _ (Exists.intro _ (And.intro (ask) (And.intro (fun _ h=>h.symm) (And.intro (by decide) ?_)))))))
 rintro v' w2 hown hgr - hat
 obtain ⟨g2,n2,c2,hv⟩:=own_form hown
 subst hv
 have ho:=hA.o.kept hgr (own_neB hA.l hA.o (by decide))
 repeat first|refine zP rfl ?_|refine zK rfl ?_
 refine zS rfl rfl (ho.cell (i:=1) rfl) (ho.free 1) ?_
 have hg:=grown_set w2 Wb 1 (.slice g2 n2 c2)
 have hnb : ∀ {e s q : Nat} {v : Value} {xs : List Value},w2.ownsRow base e s v q xs → e ≠ 85 → v.ownBlock = none ∨ v.ownBlock ≠ some Wb:=fun h he=>.inr (fun hh=>own_neB h ho he hh.symm)
 refine o_nil ⟨.slice g2 n2 c2,⟨rfl,rfl,rfl,trivial⟩,(show WalkI base (w2.setCell ⟨Wb,1,none⟩ (.slice g2 n2 c2)) Wb vp (.slice g2 n2 c2) vf ps (ls ++ [l]) fs ∧ Off w (w2.setCell ⟨Wb,1,none⟩ (.slice g2 n2 c2)) Wb vp (.slice g n c) vf vp (.slice g2 n2 c2) vf from ⟨⟨hW.b,ho.set 1 _,?_,?_,?_,?_⟩,?_⟩)⟩
 ·have:=hA.p.kept hgr (own_ne hA.l hA.p (by decide))
  exact this.kept hg (hnb this (by decide))
 ·have:=hown.kept hg (hnb hown (by decide))
  simpa using this
 ·have:=hA.f.kept hgr (by
   rcases hA.ne with h | h
   ·rw [h]; exact none_or _
   ·exact .inr (Ne.symm h))
  exact this.kept hg (hnb this (by decide))
 ·rcases hat with h2 | h2
  ·rw [h2]; exact hA.ne
  ·refine .inr (fun h=>?_)
   have:=(hA.f.lt _ (h.symm.trans h2)).2
   dsimp only [Vi] at *
   omega
 ·refine ⟨(hg.os.trans hgr.os).trans hy1.os,(hg.tape.trans hgr.tape).trans hy1.tape,(hg.output.trans hgr.output).trans hy1.output,Nat.le_trans (Nat.le_trans hy1.size hgr.size) hg.size,fun k hk hf=>⟨?_,?_⟩⟩
  ·have e1:=hy1.block k hk
   have e2:=hgr.block k (Nat.lt_of_lt_of_le hk hy1.size) (fun e=>hf (.inr (.inr (.inl e.symm))))
   have e3:=hg.block k (Nat.lt_of_lt_of_le (Nat.lt_of_lt_of_le hk hy1.size) hgr.size) (fun e=>hf (.inl (by simpa using e)))
   exact (e3.trans e2).trans e1
  ·rintro (h | h | h | h)
   ·exact hf (.inl h)
   ·exact hf (.inr (.inl h))
   ·rcases hat with h2 | h2
    ·exact hf (.inr (.inr (.inl (h2.symm.trans h))))
    ·rw [h2] at h
     simp only [Option.some.injEq] at h
     have:=hy1.size
     dsimp only [Vi] at *
     omega
   ·exact hf (.inr (.inr (.inr h)))
theorem put_r4 {base : Nat} {w : World} {Wb : Nat} {vp vl vf : Value} {ps : List (Int × Int)} {ls fs : List Int} {l fr : Int} (hW : WalkI base w Wb vp vl vf ps ls fs) (hb : base ≤ w.heap.size) (hn : fs.length < 100000000)
  {Q : Exit → Act → World → Prop} {a : Act} {ops : Array Oper} {id : Nat} (hops : Sym.regionOf Tryz.f77.body 4 = some (id,ops))
  (hS : St Tryz.f77.ntmps a [(0,Vp Wb),(2,Vi l),(3,Vi fr)])
  (hq : ∀ vf' a' w',St Tryz.f77.ntmps a' [(0,Vp Wb),(2,Vi l),(3,Vi fr)] → WalkI base w' Wb vp vl vf' ps ls (fs ++ [fr]) ∧ Off w w' Wb vp vl vf vp vl vf' → Q .normal a' w') : (Code.region id ops false).wp Tryz.prog Q a w:=by
 cases hops
 refine seq_cutx (α:=Value) (fun _=>[(0,Vp Wb),(2,Vi l),(3,Vi fr)]) (fun vf' w'=>WalkI base w' Wb vp vl vf' ps ls (fs ++ [fr]) ∧ Off w w' Wb vp vl vf vp vl vf') tab_ok hS ?_ hq
 obtain ⟨g,n,c,hv⟩:=own_form hW.f
 subst hv
 repeat first|refine zP rfl ?_|refine zK rfl ?_
 refine zL rfl (hW.o.cell (i:=2) rfl) ?_
 repeat first|refine zP rfl ?_|refine zK rfl ?_
 refine o_step rfl rfl rfl ?_
 refine Exists.intro [(0,Vi (fr))] (Exists.intro #[Vi (fr)] (And.intro (And.intro rfl rfl) (And.intro (by decide) (And.intro (fillI _ _ _) ?_))))
 have hy1:=below_alloc w (.cells #[Vi fr] 3)
 have hA : WalkI base (w.alloc (.cells #[Vi fr] 3)) Wb vp vl _ ps ls fs:=hW.keep hy1
 have ask : AppAsk (w.alloc (.cells #[Vi fr] 3)) ⟨3,.int .i64,1,8,Vi 0⟩ (.slice g n c) fs.length (fs.map (Value.int .i64)) (Vs w.heap.size 1 1) 1 [Vi fr] base:=
  ⟨hA.f,.inr ⟨_,0,_,rfl,cell_alloc_new rfl,trivial⟩,rfl,(by simp [Value.oneCell']),(by omega),(by show (fs.length + 1) * 8 ≤ _; omega),Nat.le_trans hb hy1.size⟩
 refine o_step rfl rfl rfl ?_
 refine Exists.intro _ (Exists.intro _ (Exists.intro _ (Exists.intro _ (Exists.intro _ (And.intro (ask) (And.intro (fun _ h=>h.symm) (And.intro (by decide) ?_)))))))
 rintro v' w2 hown hgr - hat
 obtain ⟨g2,n2,c2,hv⟩:=own_form hown
 subst hv
 have ho:=hA.o.kept hgr (own_neB hA.f hA.o (by decide))
 repeat first|refine zP rfl ?_|refine zK rfl ?_
 refine zS rfl rfl (ho.cell (i:=2) rfl) (ho.free 2) ?_
 have hg:=grown_set w2 Wb 2 (.slice g2 n2 c2)
 have hnb : ∀ {e s q : Nat} {v : Value} {xs : List Value},w2.ownsRow base e s v q xs → e ≠ 85 → v.ownBlock = none ∨ v.ownBlock ≠ some Wb:=fun h he=>.inr (fun hh=>own_neB h ho he hh.symm)
 refine o_nil ⟨.slice g2 n2 c2,⟨rfl,rfl,rfl,trivial⟩,(show WalkI base (w2.setCell ⟨Wb,2,none⟩ (.slice g2 n2 c2)) Wb vp vl (.slice g2 n2 c2) ps ls (fs ++ [fr]) ∧ Off w (w2.setCell ⟨Wb,2,none⟩ (.slice g2 n2 c2)) Wb vp vl (.slice g n c) vp vl (.slice g2 n2 c2) from ⟨⟨hW.b,ho.set 2 _,?_,?_,?_,?_⟩,?_⟩)⟩
 ·have:=hA.p.kept hgr (own_ne hA.f hA.p (by decide))
  exact this.kept hg (hnb this (by decide))
 ·have:=hA.l.kept hgr hA.ne
  exact this.kept hg (hnb this (by decide))
 ·have:=hown.kept hg (hnb hown (by decide))
  simpa using this
 ·rcases hat with h2 | h2
  ·rw [h2]; exact hA.ne
  ·refine .inr (fun h=>?_)
   have:=(hA.l.lt _ (h.trans h2)).2
   omega
 ·refine ⟨(hg.os.trans hgr.os).trans hy1.os,(hg.tape.trans hgr.tape).trans hy1.tape,(hg.output.trans hgr.output).trans hy1.output,Nat.le_trans (Nat.le_trans hy1.size hgr.size) hg.size,fun k hk hf=>⟨?_,?_⟩⟩
  ·have e1:=hy1.block k hk
   have e2:=hgr.block k (Nat.lt_of_lt_of_le hk hy1.size) (fun e=>hf (.inr (.inr (.inr e.symm))))
   have e3:=hg.block k (Nat.lt_of_lt_of_le (Nat.lt_of_lt_of_le hk hy1.size) hgr.size) (fun e=>hf (.inl (by simpa using e)))
   exact (e3.trans e2).trans e1
  ·rintro (h | h | h | h)
   ·exact hf (.inl h)
   ·exact hf (.inr (.inl h))
   ·exact hf (.inr (.inr (.inl h)))
   ·rcases hat with h2 | h2
    ·exact hf (.inr (.inr (.inr (h2.symm.trans h))))
    ·rw [h2] at h
     simp only [Option.some.injEq] at h
     have:=hy1.size
     dsimp only [Vi] at *
     omega
theorem WalkI.slp {base : Nat} {w : World} {Wb : Nat} {vp vl vf : Value} {ps : List (Int × Int)} {ls fs : List Int} (h : WalkI base w Wb vp vl vf ps ls fs) (hI : ∀ x ∈ ps,I64 x.1 ∧ I64 x.2) : SlP w vp ps:=by
 rcases h.p.2 with ⟨rfl,h0⟩ | ⟨g,cap,cur,rfl,_,hg,h1,h2,_⟩
 ·exact ⟨none,0,0,0,by rw [h0],by omega,by omega,by omega,fun i hi=>by omega⟩
 ·refine ⟨some ⟨g,0,none⟩,g,0,cap,rfl,fun _=>rfl,h1,by unfold maxLen at h2; omega,fun i hi=>⟨?_,hI _ (List.getElem_mem hi)⟩⟩
  have key : ∀ j u,(pairCells ps)[j]? = some u → w.cell? ⟨g,j,none⟩ = some u:=fun j u hu=>by
   have:=h.p.cells (g:=g) rfl j u hu
   unfold Addr.add at this
   split at this
   ·rename_i h0; subst h0; exact this
   ·simpa using this
  have get : ∀ (ps : List (Int × Int)) (i : Nat) (hi : i < ps.length),(pairCells ps)[i * 2]? = some (Vi ps[i].1) ∧ (pairCells ps)[i * 2 + 1]? = some (Vi ps[i].2):=by
   intro ps
   induction ps with
   | nil=>intro i hi; simp at hi
   | cons x r ih=>
     intro i hi
     cases i with
     | zero=>exact ⟨rfl,rfl⟩
     | succ i=>
       have:=ih i (by simpa using hi)
       rw [show (i + 1) * 2 = i * 2 + 2 by omega]
       exact this
  rw [Nat.zero_add]
  exact ⟨key _ _ (get ps i hi).1,key _ _ (get ps i hi).2,trivial⟩
theorem ret0 {P : Program} {N : Nat} {fn : Func} {R : Ending → World → Prop} {a : Act} {E : Env} {w : World} (h : St N a E) (hr : fn.results = #[]) (hR : R (.returned (.tuple #[])) w) : bodyPost P fn R .normal a w:=
 ⟨h.defers,_,by simp [results,hr],hR⟩
theorem foot_boxP {base : Nat} {w : World} {Wb : Nat} {vp vl vf : Value} {ps : List (Int × Int)} {ls fs : List Int} (h : WalkI base w Wb vp vl vf ps ls fs) {k : Nat} (hk : w.heap.size ≤ k) : ¬ foot Wb vp vl vf k:=by
 rintro (e | e | e | e)
 ·have:=h.o.lt; omega
 ·have:=(h.p.lt _ e).2; omega
 ·have:=(h.l.lt _ e).2; omega
 ·have:=(h.f.lt _ e).2; omega
theorem Off.boxP {w w' : World} {Wb : Nat} {vp vl vf vp' vl' vf' : Value} (h : Off w w' Wb vp vl vf vp' vl' vf') {B : Nat} {a b : Int} (hB : BoxP w B a b) (hf : ¬ foot Wb vp vl vf B) : BoxP w' B a b:=by
 have hlt : B < w.heap.size:=by
  rcases Nat.lt_or_ge B w.heap.size with hl | hl
  ·exact hl
  ·have:=hB.c0
   unfold World.cell? at this
   rw [show w.heap[(⟨B,0,none⟩ : Addr).block]? = none from Array.getElem?_eq_none hl] at this
   simp at this
 have e:=(h.off B hlt hf).1
 exact ⟨by have:=hB.c0; unfold World.cell? at this ⊢; rw [show w'.heap[(⟨B,0,none⟩ : Addr).block]? = w.heap[(⟨B,0,none⟩ : Addr).block]? from e]; exact this,
  by have:=hB.c1; unfold World.cell? at this ⊢; rw [show w'.heap[(⟨B,1,none⟩ : Addr).block]? = w.heap[(⟨B,1,none⟩ : Addr).block]? from e]; exact this⟩
theorem put_any (base : Nat) (Wb : Nat) (vp vl vf : Value) (ps : List (Int × Int)) (ls fs : List Int) (p q l fr : Int) (w : World) (hW : WalkI base w Wb vp vl vf ps ls fs) (hI : ∀ x ∈ ps,I64 x.1 ∧ I64 x.2) (hb : base ≤ w.heap.size)
  (hn : ps.length < 100000000) (hn2 : ls.length < 100000000) (hn3 : fs.length < 100000000) :
  Calls Tryz.prog 77 #[Vp Wb,.agg #[Vi p,Vi q],Vi l,Vi fr] w fun e w'=>e = .returned (.tuple #[]) ∧ ∃ vp' vl' vf',
   (if putIf p q ps = true then WalkI base w' Wb vp' vl' vf' (ps ++ [(p,q)]) (ls ++ [l]) (fs ++ [fr]) else WalkI base w' Wb vp' vl' vf' ps ls fs) ∧ Off w w' Wb vp vl vf vp' vl' vf':=by
 refine Sym.enter (args:=[Vp Wb,.agg #[Vi p,Vi q],Vi l,Vi fr]) Tryz.func77 rfl rfl rfl (fun a0 hS0=>?_)
 obtain ⟨B,hBq⟩ : ∃ B,B = w.heap.size:=⟨_,rfl⟩
 refine wp_seq (seq_cut [(0,Vp Wb),(2,Vi l),(3,Vi fr),(5,Vp B)] (· = w.alloc (.cells #[Vi p,Vi q] 48)) tab_ok hS0 ?_ (fun a wc hS hw=>?_))
 ·subst hBq
  refine zB rfl ?_
  repeat first|refine zP rfl ?_|refine zK rfl ?_
  exact o_nil ⟨⟨rfl,rfl,rfl,rfl,trivial⟩,rfl⟩
 have hB : RowKit.Below w.heap.size w wc:=by rw [hw]; exact below_alloc _ _
 have hx : BoxP wc B p q:=by rw [hw,hBq]; exact BoxP.new _ _ _ _
 clear hw
 have hnf : ¬ foot Wb vp vl vf B:=foot_boxP hW (by omega)
 have hO : Off w wc Wb vp vl vf vp vl vf:=Off.below hB (fun _ _ h=>h)
 replace hW:=hW.keep hB
 replace hb:=Nat.le_trans hb hB.size
 clear hB
 have hsl:=hW.slp hI
 obtain ⟨hb9,hhb⟩ : ∃ b,putIf p q ps = b:=⟨_,rfl⟩
 refine wp_seq (quiet_cut [(0,Vp Wb),(2,Vi l),(3,Vi fr),(5,Vp B),(24,.bool hb9)] tab_ok mixed (by kernel_rfl) hS ?_ (fun a w2 hS hw=>?_))
 ·rw [putIf] at hhb
  repeat first|refine qP rfl ?_|refine qK rfl ?_
  refine qL rfl (hx.c0) ?_
  repeat first|refine qP rfl ?_|refine qK rfl ?_
  cases e1 : decide (0 ≤ p)
  case true=>
   rw [e1,Bool.true_or,Bool.true_and] at hhb
   refine qC rfl (e1) ?_
   repeat first|refine qP rfl ?_|refine qK rfl ?_
   refine qL rfl (hW.o.cell (i:=0) rfl) ?_
   refine qA ([Vi p,Vi q]) rfl rfl (hx.cells) ?_
   refine qF (Vi (atGo (p,q) ps 0)) rfl (en_at) (fun w1 h1=>at_any vp ps p q w1 (hsl.keep h1)) ?_
   refine qC rfl (hhb) ?_
   repeat first|refine qP rfl ?_|refine qK rfl ?_
   exact q_nil ⟨rfl,rfl,rfl,rfl,rfl,trivial⟩
  case false=>
   rw [e1,Bool.false_or] at hhb
   refine qC rfl (e1) ?_
   repeat first|refine qP rfl ?_|refine qK rfl ?_
   refine qL rfl (hx.c1) ?_
   repeat first|refine qP rfl ?_|refine qK rfl ?_
   cases e2 : decide (0 ≤ q)
   case false=>
    rw [e2,Bool.false_and] at hhb; subst hhb
    refine qC rfl (e2) ?_
    repeat first|refine qP rfl ?_|refine qK rfl ?_
    exact q_nil ⟨rfl,rfl,rfl,rfl,rfl,trivial⟩
   case true=>
    rw [e2,Bool.true_and] at hhb
    refine qC rfl (e2) ?_
    repeat first|refine qP rfl ?_|refine qK rfl ?_
    refine qL rfl (hW.o.cell (i:=0) rfl) ?_
    refine qA ([Vi p,Vi q]) rfl rfl (hx.cells) ?_
    refine qF (Vi (atGo (p,q) ps 0)) rfl (en_at) (fun w1 h1=>at_any vp ps p q w1 (hsl.keep h1)) ?_
    refine qC rfl (hhb) ?_
    repeat first|refine qP rfl ?_|refine qK rfl ?_
    exact q_nil ⟨rfl,rfl,rfl,rfl,rfl,trivial⟩
 have hO:=hO.trans (Off.below hw (fun _ _ h=>h))
 replace hW:=hW.keep hw
 replace hx:=hx.keep hw
 replace hb:=Nat.le_trans hb hw.size
 refine cond hS rfl (fun hT=>?_) (fun hF=>?_)
 ·refine wp_seq (put_r2 hW hx hb hn (by rfl) (hS.sub ⟨rfl,rfl,rfl,rfl,trivial⟩) (fun vp1 a w3 hS h=>?_))
  have hb3:=Nat.le_trans hb h.2.size
  refine wp_seq (put_r3 h.1 hb3 hn2 (by rfl) (hS.sub ⟨rfl,rfl,rfl,trivial⟩) (fun vl1 a w4 hS h4=>?_))
  refine put_r4 h4.1 (Nat.le_trans hb3 h4.2.size) hn3 (by rfl) hS (fun vf1 a w5 hS h5=>?_)
  exact ret0 hS rfl ⟨rfl,vp1,vl1,vf1,by rw [if_pos (hhb.trans hT)]; exact h5.1,((hO.trans h.2).trans h4.2).trans h5.2⟩
 ·refine wp_skip ?_
  exact ret0 hS rfl ⟨rfl,vp,vl,vf,by rw [if_neg (by rw [hhb,hF]; decide)]; exact hW,hO⟩
end Go.Proofs.YthcoppfiahnpoaaGreat
namespace Go.Proofs.YthcoppfiahnpoaaGreat
open Go Sym
def newP (w : World) (a b : Int) : World:=(w.alloc (.cells #[Vi 0,Vi 0] 48)).setCells w.heap.size 0 [Vi a,Vi b]
theorem newP_below (w : World) (a b : Int) : RowKit.Below w.heap.size w (newP w a b):=by
 have h1:=below_alloc w (.cells #[Vi 0,Vi 0] 48)
 exact below_of_grown h1 (grown_sets w.heap.size _ 0 _) (fun k hk=>by cases hk; exact Nat.le_refl _)
theorem newP_box (w : World) (a b : Int) : BoxP (newP w a b) w.heap.size a b:=by
 have h:=(OwnB.new w [Vi 0,Vi 0] 48).sets (us:=[Vi a,Vi b]) rfl
 exact ⟨h.cell (i:=0) rfl,h.cell (i:=1) rfl⟩
theorem own_cells2 {w : World} {b : Nat} {T : TypeId} {v0 v1 : Value} (h : OwnB w b T [v0,v1]) : ∀ j,j < 2 → (w.cell? ⟨b,0 + j,none⟩).isSome = true ∧ w.frozen? ⟨b,0 + j,none⟩ = false:=fun j hj=>by
 rw [Nat.zero_add]
 refine ⟨?_,h.free j⟩
 have : [v0,v1][j]? = some ([v0,v1][j]):=List.getElem?_eq_getElem (by simpa using hj)
 rw [h.cell this]; rfl
theorem bad_range {m1 m2 : Int} {l : List (Int × Int)} {k : Nat} (hk : k < l.length) (h : badM m1 m2 l k = false) : -1 ≤ l[k].1 ∧ l[k].1 < m1 ∧ -1 ≤ l[k].2 ∧ l[k].2 < m2:=by
 rw [badM,badP,show l.getD k (0,0) = l[k] by simp [List.getD_eq_getElem?_getD,hk]] at h
 simp only [Bool.or_eq_false_iff,decide_eq_false_iff_not] at h
 omega
end Go.Proofs.YthcoppfiahnpoaaGreat
namespace Go.Proofs.YthcoppfiahnpoaaGreat
open Go Sym
theorem off_below {base : Nat} {wc w w' : World} {Wb : Nat} {vp vl vf vp' vl' vf' : Value} {ps : List (Int × Int)} {ls fs : List Int} (h : RowKit.Below base wc w) (hb : base ≤ w.heap.size) (hW : WalkI base w Wb vp vl vf ps ls fs) (hO : Off w w' Wb vp vl vf vp' vl' vf') : RowKit.Below base wc w':=
 ⟨hO.os.trans h.os,hO.tape.trans h.tape,hO.output.trans h.output,Nat.le_trans h.size hO.size,fun k hk=>by
  have hnf : ¬ foot Wb vp vl vf k:=by
   rintro (e | e | e | e)
   ·have:=hW.b; omega
   ·have:=(hW.p.lt _ e).1; omega
   ·have:=(hW.l.lt _ e).1; omega
   ·have:=(hW.f.lt _ e).1; omega
  exact (hO.off k (Nat.lt_of_lt_of_le hk hb) hnf).1.trans (h.block k hk)⟩
structure WOk (n1 n2 : List (List Int)) (s : WS) (m : Nat) : Prop where
 r : ∀ x ∈ s.ps,-1 ≤ x.1 ∧ x.1 < n1.length ∧ -1 ≤ x.2 ∧ x.2 < n2.length
 l : s.ls.length = s.ps.length
 f : s.fs.length = s.ps.length
 m : s.ps.length ≤ m
 d : s.ps.Nodup
theorem WOk.cap {n1 n2 : List (List Int)} {s : WS} {m : Nat} (h : WOk n1 n2 s m) : s.ps.length ≤ (n1.length + 1) * (n2.length + 1):=by
 rw [← allPairs_len]
 refine h.d.length_le_of_subset (fun x hx=>?_)
 obtain ⟨a,b,c,d⟩:=h.r x hx
 refine List.mem_flatMap.2 ⟨(x.1 + 1).toNat,List.mem_range.2 (by omega),List.mem_map.2 ⟨(x.2 + 1).toNat,List.mem_range.2 (by omega),?_⟩⟩
 exact Prod.ext (by simp only; omega) (by simp only; omega)
theorem WOk.put {n1 n2 : List (List Int)} {s : WS} {m : Nat} (h : WOk n1 n2 s m) {p q l fr : Int} (h1 : -1 ≤ p) (h2 : p < n1.length) (h3 : -1 ≤ q) (h4 : q < n2.length) : WOk n1 n2 (s.put p q l fr) (m + 1):=by
 unfold WS.put
 split
 ·rename_i hput
  have hnot : (p,q) ∉ s.ps:=by
   rw [putIf,Bool.and_eq_true,decide_eq_true_eq] at hput
   exact atGo_neg _ _ hput.2
  refine ⟨fun x hx=>?_,?_,?_,?_,List.nodup_append.2 ⟨h.d,by simp,fun x hx y hy=>by rw [List.mem_singleton.1 hy]; exact fun e=>hnot (e ▸ hx)⟩⟩
  ·rcases List.mem_append.1 hx with hx | hx
   ·exact h.r x hx
   ·rw [List.mem_singleton.1 hx]; exact ⟨h1,h2,h3,h4⟩
  ·simp [h.l]
  ·simp [h.f]
  ·have:=h.m; simp; omega
 ·exact ⟨h.r,h.l,h.f,Nat.le_trans h.m (Nat.le_succ _),h.d⟩
theorem WOk.up {n1 n2 : List (List Int)} {s : WS} {m m' : Nat} (h : WOk n1 n2 s m) (hm : m ≤ m') : WOk n1 n2 s m':=⟨h.r,h.l,h.f,Nat.le_trans h.m hm,h.d⟩
theorem put_ws (base : Nat) (Wb : Nat) (vp vl vf : Value) (s : WS) (p q l fr : Int) (w : World) {n1 n2 : List (List Int)} {m : Nat} (hW : WalkI base w Wb vp vl vf s.ps s.ls s.fs) (hk : WOk n1 n2 s m) (hm : s.ps.length < 100000000) (hl1 : n1.length ≤ 9223372036854775807) (hl2 : n2.length ≤ 9223372036854775807) (hb : base ≤ w.heap.size) :
  Calls Tryz.prog 77 #[Vp Wb,.agg #[Vi p,Vi q],Vi l,Vi fr] w fun e w'=>e = .returned (.tuple #[]) ∧ ∃ vp' vl' vf',
   WalkI base w' Wb vp' vl' vf' (s.put p q l fr).ps (s.put p q l fr).ls (s.put p q l fr).fs ∧ Off w w' Wb vp vl vf vp' vl' vf':=by
 have h1:=hk.m
 have h2:=hk.l
 have h3:=hk.f
 refine (put_any base Wb vp vl vf s.ps s.ls s.fs p q l fr w hW (fun x hx=>?_) hb (by omega) (by omega) (by omega)).mono ?_
 ·obtain ⟨a,b,c,d⟩:=hk.r x hx
  exact ⟨⟨by omega,by omega⟩,⟨by omega,by omega⟩⟩
 ·rintro e w' ⟨he,vp',vl',vf',h,hO⟩
  refine ⟨he,vp',vl',vf',?_,hO⟩
  unfold WS.put
  split
  ·rename_i hp; rw [if_pos hp] at h; exact h
  ·rename_i hp; rw [if_neg hp] at h; exact h
theorem en_put : enters Tryz.prog 77 = true:=by kernel_rfl
theorem boxP_sets {w : World} {b : Nat} {T : TypeId} {x y p q : Int} (h : OwnB w b T [Vi x,Vi y]) : BoxP (w.setCells b 0 [Vi p,Vi q]) b p q:=by
 have h:=h.sets (us:=[Vi p,Vi q]) rfl
 exact ⟨h.cell (i:=0) rfl,h.cell (i:=1) rfl⟩
set_option maxHeartbeats 1000000 in
theorem walked_r11 {w : World} {M N1 N2 Wb B : Nat} {both : Bool} {max i : Int} {c : Nat} {L1 s1 L2 s2 p q : Int} {vn1 ve1 vn2 ve2 : Value} {n1 n2 : List (List Int)}
  (hn1 : Sl w vn1 n1 PRow) (hn2 : Sl w vn2 n2 PRow) (hx : Box w M L1 s1 vn1 ve1) (hy0 : Box w N1 L2 s2 vn2 ve2) (hp : BoxP w B p q)
  (hp1 : p < n1.length) (hq1 : q < n2.length) (hr1 : 0 ≤ p → (c : Int) < (n1.getD p.toNat []).length) (hr2 : 0 ≤ q → (c : Int) < (n2.getD q.toNat []).length)
  {Q : Exit → Act → World → Prop} {a : Act} {ops : Array Oper} {id : Nat} (hops : Sym.regionOf Tryz.f48.body 11 = some (id,ops))
  (hS : St Tryz.f48.ntmps a [(2,.bool both),(3,Vi max),(4,Vp M),(5,Vp N1),(8,Vp N2),(9,Vp Wb),(10,Vi i),(11,Vp B),(12,Vi c)])
  (hq : ∀ B2 a' w',St Tryz.f48.ntmps a' [(2,.bool both),(3,Vi max),(4,Vp M),(5,Vp N1),(8,Vp N2),(9,Vp Wb),(10,Vi i),(11,Vp B),(12,Vi c),(13,Vp B2)] → RowKit.Below w.heap.size w w' ∧ BoxP w' B2 (stepM n1 p c) (stepM n2 q c) → Q .normal a' w') : (Code.region id ops true).wp Tryz.prog Q a w:=by
 cases hops
 refine any_cutx (α:=Nat) 13 (fun B2=>[(2,.bool both),(3,Vi max),(4,Vp M),(5,Vp N1),(8,Vp N2),(9,Vp Wb),(10,Vi i),(11,Vp B),(12,Vi c),(13,Vp B2)]) (fun B2 w'=>RowKit.Below w.heap.size w w' ∧ BoxP w' B2 (stepM n1 p c) (stepM n2 q c)) mixed hS ?_ hq
 have hy : RowKit.Below w.drew.heap.size w.drew w.drew:=RowKit.Below.refl _ _
 have S1:=fun w1 (h : RowKit.Below w.drew.heap.size w.drew w1)=>step_any L1 s1 vn1 ve1 n1 p c w1 (hn1.keep (w:=w) (undrew h) (fun _ _ h'=>PRow.keep (w:=w) (undrew h) h')) hp1 (fun h0=>⟨by omega,hr1 h0⟩)
 have S2:=fun w1 (h : RowKit.Below w.drew.heap.size w.drew w1)=>step_any L2 s2 vn2 ve2 n2 q c w1 (hn2.keep (w:=w) (undrew h) (fun _ _ h'=>PRow.keep (w:=w) (undrew h) h')) hq1 (fun h0=>⟨by omega,hr2 h0⟩)
 refine yT 0 tab_ok rfl (by kernel_rfl) hy rfl (Exists.intro ([Vi L1,Vi s1,vn1,ve1]) (And.intro rfl (And.intro (hx.cells) rfl))) ?_
 refine yT 1 tab_ok rfl (by kernel_rfl) hy rfl (rfl) ?_
 refine yL 2 tab_ok rfl (by kernel_rfl) hy rfl rfl (hp.c0) ?_
 refine yT 3 tab_ok rfl (by kernel_rfl) hy rfl (rfl) ?_
 refine yT 5 tab_ok rfl (by kernel_rfl) hy rfl (Exists.intro ([Vi L2,Vi s2,vn2,ve2]) (And.intro rfl (And.intro (hy0.cells) rfl))) ?_
 refine yT 6 tab_ok rfl (by kernel_rfl) hy rfl (rfl) ?_
 refine yL 7 tab_ok rfl (by kernel_rfl) hy rfl rfl (hp.c1) ?_
 refine yT 8 tab_ok rfl (by kernel_rfl) hy rfl (rfl) ?_
 refine y_two 4 11 (by kernel_rfl) (y_op 4 tab_ok rfl rfl rfl rfl ?_) (y_op 11 tab_ok rfl rfl rfl rfl ?_)
 ·
  refine And.intro en_step ((S1 _ (hy)).mono ?_)
  rintro e w1 ⟨rfl,h1⟩
  refine ⟨_,rfl,?_⟩
  have hy1:=below_trans hy h1
  refine And.intro (.inr hy1) ?_
  refine y_two 9 11 (by kernel_rfl) (y_op 9 tab_ok rfl rfl rfl rfl ?_) (y_op 11 tab_ok rfl rfl rfl rfl ?_)
  ·
   refine And.intro en_step ((S2 _ (hy1)).mono ?_)
   rintro e w2 ⟨rfl,h2⟩
   refine ⟨_,rfl,?_⟩
   have hy2:=below_trans hy1 h2
   refine And.intro (.inr hy2) ?_
   refine yT 10 tab_ok rfl (by kernel_rfl) hy2 rfl (rfl) ?_
   refine y_one 11 (by kernel_rfl) (y_op 11 tab_ok rfl rfl rfl rfl ?_)
   have hy3:=hy2.alloc hy2.size (.cells #[Vi 0,Vi 0] 48)
   refine And.intro (.inr hy3) ?_
   refine y_one 12 (by kernel_rfl) (y_op0 12 tab_ok rfl rfl rfl ?_)
   have ho:=OwnB.new w2 [Vi 0,Vi 0] 48
   refine And.intro rfl (And.intro rfl (And.intro (own_cells2 ho) (And.intro (.inr (below_of_grown hy3 (grown_sets _ _ 0 _) (fun k hk=>by cases hk; exact hy2.size))) ?_)))
   exact y_endx _ (by kernel_rfl) ⟨rfl,rfl,rfl,rfl,rfl,rfl,rfl,rfl,rfl,rfl,trivial⟩ ⟨undrew (below_of_grown hy3 (grown_sets _ _ 0 _) (fun k hk=>by cases hk; exact hy2.size)),boxP_sets ho⟩
  ·
   have hy2:=hy1.alloc hy1.size (.cells #[Vi 0,Vi 0] 48)
   refine And.intro (.inr hy2) ?_
   have ho:=OwnB.new w1 [Vi 0,Vi 0] 48
   refine y_one 9 (by kernel_rfl) (y_op 9 tab_ok rfl rfl rfl rfl ?_)
   refine And.intro en_step ((S2 _ (hy2)).mono ?_)
   rintro e w2 ⟨rfl,h2⟩
   refine ⟨_,rfl,?_⟩
   have hy3:=below_trans hy2 h2
   refine And.intro (.inr hy3) ?_
   have ho2:=ho.keep h2 ho.lt
   refine yT 10 tab_ok rfl (by kernel_rfl) hy3 rfl (rfl) ?_
   refine y_one 12 (by kernel_rfl) (y_op0 12 tab_ok rfl rfl rfl ?_)
   refine And.intro rfl (And.intro rfl (And.intro (own_cells2 ho2) (And.intro (.inr (below_of_grown hy3 (grown_sets _ _ 0 _) (fun k hk=>by cases hk; exact hy1.size))) ?_)))
   exact y_endx _ (by kernel_rfl) ⟨rfl,rfl,rfl,rfl,rfl,rfl,rfl,rfl,rfl,rfl,trivial⟩ ⟨undrew (below_of_grown hy3 (grown_sets _ _ 0 _) (fun k hk=>by cases hk; exact hy1.size)),boxP_sets ho2⟩
 ·
  have hy1:=hy.alloc (Nat.le_refl _) (.cells #[Vi 0,Vi 0] 48)
  refine And.intro (.inr hy1) ?_
  have ho:=OwnB.new w.drew [Vi 0,Vi 0] 48
  refine y_one 4 (by kernel_rfl) (y_op 4 tab_ok rfl rfl rfl rfl ?_)
  refine And.intro en_step ((S1 _ (hy1)).mono ?_)
  rintro e w1 ⟨rfl,h1⟩
  refine ⟨_,rfl,?_⟩
  have hy2:=below_trans hy1 h1
  refine And.intro (.inr hy2) ?_
  have ho1:=ho.keep h1 ho.lt
  refine y_one 9 (by kernel_rfl) (y_op 9 tab_ok rfl rfl rfl rfl ?_)
  refine And.intro en_step ((S2 _ (hy2)).mono ?_)
  rintro e w2 ⟨rfl,h2⟩
  refine ⟨_,rfl,?_⟩
  have hy3:=below_trans hy2 h2
  refine And.intro (.inr hy3) ?_
  have ho2:=ho1.keep h2 ho1.lt
  refine yT 10 tab_ok rfl (by kernel_rfl) hy3 rfl (rfl) ?_
  refine y_one 12 (by kernel_rfl) (y_op0 12 tab_ok rfl rfl rfl ?_)
  refine And.intro rfl (And.intro rfl (And.intro (own_cells2 ho2) (And.intro (.inr (below_of_grown hy3 (grown_sets _ _ 0 _) (fun k hk=>by cases hk; exact Nat.le_refl _))) ?_)))
  exact y_endx _ (by kernel_rfl) ⟨rfl,rfl,rfl,rfl,rfl,rfl,rfl,rfl,rfl,rfl,trivial⟩ ⟨undrew (below_of_grown hy3 (grown_sets _ _ 0 _) (fun k hk=>by cases hk; exact Nat.le_refl _)),boxP_sets ho2⟩
theorem boxP_lt {w : World} {B : Nat} {a b : Int} (hB : BoxP w B a b) : B < w.heap.size:=by
 rcases Nat.lt_or_ge B w.heap.size with hl | hl
 ·exact hl
 ·have:=hB.c0
  unfold World.cell? at this
  rw [show w.heap[(⟨B,0,none⟩ : Addr).block]? = none from Array.getElem?_eq_none hl] at this
  simp at this
theorem own_cells3 {w : World} {b : Nat} {T : TypeId} {v0 v1 v2 : Value} (h : OwnB w b T [v0,v1,v2]) : ∀ j,j < 3 → (w.cell? ⟨b,0 + j,none⟩).isSome = true ∧ w.frozen? ⟨b,0 + j,none⟩ = false:=fun j hj=>by
 rw [Nat.zero_add]
 refine ⟨?_,h.free j⟩
 have : [v0,v1,v2][j]? = some ([v0,v1,v2][j]):=List.getElem?_eq_getElem (by simpa using hj)
 rw [h.cell this]; rfl
theorem cut {P : Program} {F : Act → World → Prop} {Q : Exit → Act → World → Prop} {c : Code} {a : Act} {w : World} (h : c.wp P (Only F) a w) (hq : ∀ a' w',F a' w' → Q .normal a' w') : c.wp P Q a w:=
 wp_mono h (fun e a' w' h=>by
  cases e with
  | normal=>exact hq a' w' h
  | _=>exact h.elim)
theorem walkStart_ok {L s1 : Int} {n1 : List (List Int)} {f1 : List Bool} {L2 s2 : Int} {n2 : List (List Int)} {f2 : List Bool} (h1 : Shape L s1 n1 f1) (h2 : Shape L2 s2 n2 f2) (both : Bool) : WOk n1 n2 (walkStart both s1 s2) 1:=by
 have h0 : WOk n1 n2 ⟨[],[],[]⟩ 0:=⟨fun x hx=>(by cases hx),rfl,rfl,Nat.le_refl _,List.nodup_nil⟩
 unfold walkStart
 split
 ·exact h0.put h1.s1 h1.s2 h2.s1 h2.s2
 ·exact h0.up (Nat.zero_le _)
theorem walked_any (L1 s1 L2 s2 : Int) (vn1 ve1 vn2 ve2 : Value) (n1 n2 : List (List Int)) (f1 f2 : List Bool) (both : Bool) (max : Int) (w : World) (hm : Ma w L1 s1 n1 f1 vn1 ve1) (hm2 : Ma w L2 s2 n2 f2 vn2 ve2)
  (hs1 : Shape L1 s1 n1 f1) (hs2 : Shape L2 s2 n2 f2) (hLL : L1 = L2) (hL : L1 ≤ 300) (hmax : 0 ≤ max) (hcap : (n1.length + 1) * (n2.length + 1) < 100000000) :
  Calls Tryz.prog 48 #[.agg #[Vi L1,Vi s1,vn1,ve1],.agg #[Vi L2,Vi s2,vn2,ve2],.bool both,Vi max] w fun e w'=>∃ Wb vp vl vf,e = .returned (.agg #[vp,vl,vf]) ∧
   WalkI w.heap.size w' Wb vp vl vf (walkM L1 s1 n1 s2 n2 both max).ps (walkM L1 s1 n1 s2 n2 both max).ls (walkM L1 s1 n1 s2 n2 both max).fs ∧ RowKit.Below w.heap.size w w':=by
 refine Sym.enter (args:=[.agg #[Vi L1,Vi s1,vn1,ve1],.agg #[Vi L2,Vi s2,vn2,ve2],.bool both,Vi max]) Tryz.func48 rfl rfl rfl (fun a0 hS0=>?_)
 obtain ⟨M,hM⟩ : ∃ M,M = w.heap.size:=⟨_,rfl⟩
 obtain ⟨N,hN⟩ : ∃ N,N = (w.alloc (.cells #[Vi L1,Vi s1,vn1,ve1] 25)).heap.size:=⟨_,rfl⟩
 obtain ⟨wb,hwb⟩ : ∃ wb,wb = (w.alloc (.cells #[Vi L1,Vi s1,vn1,ve1] 25)).alloc (.cells #[Vi L2,Vi s2,vn2,ve2] 25):=⟨_,rfl⟩
 obtain ⟨K,hK⟩ : ∃ K,K = wb.heap.size:=⟨_,rfl⟩
 refine wp_seq (seq_cut [(2,.bool both),(3,Vi max),(4,Vp M),(5,Vp N),(8,Vp K)] (· = wb.alloc (.cells #[.slice none 0 0,.slice none 0 0,.slice none 0 0] 85)) tab_ok hS0 ?_ (fun a wc hS hw=>?_))
 ·subst hK hwb hN hM
  refine zB rfl ?_
  refine zB rfl ?_
  refine zB rfl ?_
  exact o_nil ⟨⟨rfl,rfl,rfl,rfl,rfl,trivial⟩,rfl⟩
 have hB1:=below_alloc w (.cells #[Vi L1,Vi s1,vn1,ve1] 25)
 have hB2:=below_alloc (w.alloc (.cells #[Vi L1,Vi s1,vn1,ve1] 25)) (.cells #[Vi L2,Vi s2,vn2,ve2] 25)
 rw [← hwb] at hB2
 have hB3:=below_alloc wb (.cells #[.slice none 0 0,.slice none 0 0,.slice none 0 0] 85)
 rw [← hw] at hB3
 have hx : Box wc M L1 s1 vn1 ve1:=by rw [hM]; exact ((Box.new w L1 s1 vn1 ve1 25).keep hB2).keep hB3
 have hy : Box wc N L2 s2 vn2 ve2:=by
  have : Box wb N L2 s2 vn2 ve2:=by rw [hwb,hN]; exact Box.new _ _ _ _ _ _
  exact this.keep hB3
 have hoK : OwnB wc K 85 [.slice none 0 0,.slice none 0 0,.slice none 0 0]:=by rw [hw,hK]; exact OwnB.new _ _ _
 have hB:=below_trans (below_trans hB1 hB2) hB3
 have hKw : w.heap.size ≤ K:=by rw [hK]; exact (below_trans hB1 hB2).size
 clear hw hwb hB1 hB2 hB3 hN hM hK
 replace hm:=hm.keep hB
 replace hm2:=hm2.keep hB
 have hl1:=hm.n.lt
 have hl2:=hm2.n.lt
 obtain ⟨Wb,hWb⟩ : ∃ Wb,Wb = wc.heap.size:=⟨_,rfl⟩
 refine wp_seq (seq_cut [(2,.bool both),(3,Vi max),(4,Vp M),(5,Vp N),(8,Vp K),(9,Vp Wb)] (· = wc.alloc (.cells #[.slice none 0 0,.slice none 0 0,.slice none 0 0] 85)) tab_ok hS ?_ (fun a w1 hS hw=>?_))
 ·subst hWb
  repeat first|refine zP rfl ?_|refine zK rfl ?_
  refine zB rfl ?_
  repeat first|refine zP rfl ?_|refine zK rfl ?_
  exact o_nil ⟨⟨rfl,rfl,rfl,rfl,rfl,rfl,trivial⟩,rfl⟩
 have hK1 : RowKit.Below wc.heap.size wc w1:=by rw [hw]; exact below_alloc _ _
 have hW1 : WalkI wc.heap.size w1 Wb (.slice none 0 0) (.slice none 0 0) (.slice none 0 0) [] [] []:=by
  refine ⟨by omega,?_,World.ownsRow_nil _ _ _ _,World.ownsRow_nil _ _ _ _,World.ownsRow_nil _ _ _ _,.inl rfl⟩
  rw [hw,hWb]; exact OwnB.new _ _ _
 clear hw hWb
 refine wp_seq (cut (F:=fun a' w'=>St Tryz.f48.ntmps a' [(2,.bool both),(3,Vi max),(4,Vp M),(5,Vp N),(8,Vp K),(9,Vp Wb)] ∧ RowKit.Below wc.heap.size wc w' ∧ ∃ vp vl vf,WalkI wc.heap.size w' Wb vp vl vf (walkStart both s1 s2).ps (walkStart both s1 s2).ls (walkStart both s1 s2).fs) ?_ ?_)
 ·have hx1:=hx.keep hK1
  have hy1:=hy.keep hK1
  refine wp_seq (seq_cut [(2,.bool both),(3,Vi max),(4,Vp M),(5,Vp N),(8,Vp K),(9,Vp Wb),(27,.bool (okPut both s1 s2))] (· = w1) tab_ok hS ?_ (fun a w2 hS hw=>?_))
  ·cases both
   case false=>
    repeat first|refine zP rfl ?_|refine zK rfl ?_
    exact o_nil ⟨⟨rfl,rfl,rfl,rfl,rfl,rfl,rfl,trivial⟩,rfl⟩
   case true=>
    repeat first|refine zP rfl ?_|refine zK rfl ?_
    refine zL rfl (hx1.c1) ?_
    repeat first|refine zP rfl ?_|refine zK rfl ?_
    cases e1 : decide (0 ≤ s1)
    case false=>
     refine zC rfl (e1) ?_
     repeat first|refine zP rfl ?_|refine zK rfl ?_
     exact o_nil ⟨⟨rfl,rfl,rfl,rfl,rfl,rfl,by rw [okPut,e1]; rfl,trivial⟩,rfl⟩
    case true=>
     refine zC rfl (e1) ?_
     repeat first|refine zP rfl ?_|refine zK rfl ?_
     refine zL rfl (hy1.c1) ?_
     refine zC rfl (rfl) ?_
     repeat first|refine zP rfl ?_|refine zK rfl ?_
     exact o_nil ⟨⟨rfl,rfl,rfl,rfl,rfl,rfl,by rw [okPut,e1]; rfl,trivial⟩,rfl⟩
  subst hw
  refine cond hS rfl (fun hT=>?_) (fun hF=>?_)
  ·refine seq_cut [(2,.bool both),(3,Vi max),(4,Vp M),(5,Vp N),(8,Vp K),(9,Vp Wb)] (fun w'=>RowKit.Below wc.heap.size wc w' ∧ ∃ vp vl vf,WalkI wc.heap.size w' Wb vp vl vf (walkStart both s1 s2).ps (walkStart both s1 s2).ls (walkStart both s1 s2).fs) tab_ok hS ?_ (fun a w3 hS hw=>⟨hS,hw⟩)
   repeat first|refine zP rfl ?_|refine zK rfl ?_
   refine zL rfl (hx1.c1) ?_
   repeat first|refine zP rfl ?_|refine zK rfl ?_
   refine zL rfl (hy1.c1) ?_
   repeat first|refine zP rfl ?_|refine zK rfl ?_
   refine zF rfl (en_put) (put_ws wc.heap.size Wb _ _ _ ⟨[],[],[]⟩ s1 s2 (-1) (-1) w2 (n1:=n1) (n2:=n2) (m:=0) hW1 ⟨fun x hx=>(by cases hx),rfl,rfl,Nat.le_refl _,List.nodup_nil⟩ (by simp) hl1 hl2 hK1.size) ?_
   rintro e w3 ⟨rfl,vp,vl,vf,h1,h2⟩
   refine ⟨_,rfl,?_⟩
   repeat first|refine zP rfl ?_|refine zK rfl ?_
   exact o_nil ⟨⟨rfl,rfl,rfl,rfl,rfl,rfl,trivial⟩,off_below hK1 hK1.size hW1 h2,vp,vl,vf,(by rw [walkStart,if_pos hT]; exact h1)⟩
  ·exact wp_skip ⟨hS.sub ⟨rfl,rfl,rfl,rfl,rfl,rfl,trivial⟩,hK1,_,_,_,by rw [walkStart,if_neg (by rw [hF]; decide)]; exact hW1⟩
 rintro a w2 ⟨hS,hK2,vp0,vl0,vf0,hW2⟩
 have hst:=walkStart_ok hs1 hs2 both
 clear hW1 hK1
 refine wp_seq (wp_seq (seq_cut [(2,.bool both),(3,Vi max),(4,Vp M),(5,Vp N),(8,Vp K),(9,Vp Wb),(10,Vi 0)] (· = w2) tab_ok hS ?_ (fun a w3 hS hw=>?_)))
 ·repeat first|refine zP rfl ?_|refine zK rfl ?_
  exact o_nil ⟨⟨rfl,rfl,rfl,rfl,rfl,rfl,rfl,trivial⟩,rfl⟩
 subst hw
 have hL0:=hs1.L0
 refine wp_block (loop0 hS (fun g E wr=>∃ (k : Nat) (vp vl vf : Value) (s : WS),k ≤ max.toNat + 1 ∧ g = max.toNat + 1 - k ∧ E = [(2,.bool both),(3,Vi max),(4,Vp M),(5,Vp N),(8,Vp K),(9,Vp Wb),(10,Vi k)] ∧ RowKit.Below wc.heap.size wc wr ∧ WalkI wc.heap.size wr Wb vp vl vf s.ps s.ls s.fs ∧ WOk n1 n2 s (max.toNat + 301) ∧
   walkM L1 s1 n1 s2 n2 both max = walkGo n1 n2 both max L1.toNat (max.toNat + 1 - k) k s)
  (max.toNat + 1) ⟨0,vp0,vl0,vf0,_,by omega,rfl,rfl,hK2,hW2,hst.up (by omega),rfl⟩ ?_)
 clear hW2 hK2 hst hS
 rintro g E wr a1 ⟨k,vp,vl,vf,s,hk,rfl,rfl,hK,hW,hok,hgo⟩ hS
 have hI : ∀ x ∈ s.ps,I64 x.1 ∧ I64 x.2:=fun x hx=>by
  obtain ⟨a,b,c,d⟩:=hok.r x hx
  exact ⟨⟨by omega,by omega⟩,⟨by omega,by omega⟩⟩
 obtain ⟨al,bl,ol,cl,hvp,h1,h2,h3,h4⟩:=hW.slp hI
 subst hvp
 obtain ⟨hb,hhb⟩ : ∃ b,(decide ((k : Int) < s.ps.length) && decide ((s.ps.length : Int) ≤ max)) = b:=⟨_,rfl⟩
 refine wp_seq (wp_seq (seq_cut [(2,.bool both),(3,Vi max),(4,Vp M),(5,Vp N),(8,Vp K),(9,Vp Wb),(10,Vi k),(50,.bool hb)] (· = wr) tab_ok hS ?_ (fun a w4 hS hw=>?_)))
 ·repeat first|refine zP rfl ?_|refine zK rfl ?_
  refine zL rfl (hW.o.cell (i:=0) rfl) ?_
  repeat first|refine zP rfl ?_|refine zK rfl ?_
  cases e1 : decide ((k : Int) < s.ps.length)
  case false=>
   rw [e1,Bool.false_and] at hhb; subst hhb
   refine zC rfl (e1) ?_
   repeat first|refine zP rfl ?_|refine zK rfl ?_
   exact o_nil ⟨⟨rfl,rfl,rfl,rfl,rfl,rfl,rfl,rfl,trivial⟩,rfl⟩
  case true=>
   rw [e1,Bool.true_and] at hhb
   refine zC rfl (e1) ?_
   repeat first|refine zP rfl ?_|refine zK rfl ?_
   refine zL rfl (hW.o.cell (i:=0) rfl) ?_
   repeat first|refine zP rfl ?_|refine zK rfl ?_
   refine zC rfl (hhb) ?_
   repeat first|refine zP rfl ?_|refine zK rfl ?_
   exact o_nil ⟨⟨rfl,rfl,rfl,rfl,rfl,rfl,rfl,rfl,trivial⟩,rfl⟩
 subst hw
 refine cond hS rfl (fun hT=>?_) (fun hF=>?_)
 case refine_2=>
  refine wp_exit ?_
  repeat (first | refine then_exit ?_ | refine block_exit ?_ | refine block_other rfl ?_)
  have hend : walkM L1 s1 n1 s2 n2 both max = s:=by
   rw [hgo]
   have hno : ¬ (k < s.ps.length ∧ (s.ps.length : Int) ≤ max):=by
    rintro ⟨ha,hb2⟩
    rw [hF,decide_eq_true (by omega : (k : Int) < s.ps.length),decide_eq_true hb2] at hhb
    cases hhb
   cases max.toNat + 1 - k with
   | zero=>rfl
   | succ g=>rw [walkGo,if_neg hno]
  have hoK':=hoK.keep hK hoK.lt
  refine wp_seq (seq_cut [(8,Vp K)] (· = w4.setCells K 0 [.slice al s.ps.length cl,vl,vf]) tab_ok hS ?_ (fun a w5 hS hw=>?_))
  ·repeat first|refine zP rfl ?_|refine zK rfl ?_
   refine zA ([.slice al s.ps.length cl,vl,vf]) rfl rfl (⟨hW.o.cell (i:=0) rfl,hW.o.cell (i:=1) rfl,hW.o.cell (i:=2) rfl,trivial⟩) ?_
   refine o_step0 rfl rfl (And.intro rfl (And.intro ?_ (And.intro (own_cells3 hoK') ?_)))
   ·obtain ⟨_,_,_,rfl⟩:=own_form hW.l
    obtain ⟨_,_,_,rfl⟩:=own_form hW.f
    rfl
   exact o_nil ⟨⟨rfl,trivial⟩,rfl⟩
  have hgr:=grown_sets K [.slice al s.ps.length cl,vl,vf] 0 w4
  have hoF : OwnB (w4.setCells K 0 [.slice al s.ps.length cl,vl,vf]) K 85 [.slice al s.ps.length cl,vl,vf]:=hoK'.sets rfl
  have hne : some Wb ≠ some K:=by
   have:=hoK.lt
   have:=hW.b
   simp only [ne_eq,Option.some.injEq]
   omega
  have hnb : ∀ {e q z : Nat} {v : Value} {xs : List Value},w4.ownsRow wc.heap.size e z v q xs → v.ownBlock = none ∨ v.ownBlock ≠ some K:=fun h=>.inr (fun hh=>by
   have:=(h.lt _ hh).1
   have:=hoK.lt
   omega)
  have hWF : WalkI w.heap.size (w4.setCells K 0 [.slice al s.ps.length cl,vl,vf]) Wb (.slice al s.ps.length cl) vl vf s.ps s.ls s.fs:=
   ⟨Nat.le_trans hB.size hW.b,hW.o.kept hgr hne,own_mono (hW.p.kept hgr (hnb hW.p)) hB.size,own_mono (hW.l.kept hgr (hnb hW.l)) hB.size,own_mono (hW.f.kept hgr (hnb hW.f)) hB.size,hW.ne⟩
  subst hw
  refine wp_ret ?_
  repeat (first | refine then_ret ?_ | refine block_ret ?_)
  refine retc1 tab_ok hS rfl rfl rfl rfl (o:=0) (vs:=[.slice al s.ps.length cl,vl,vf]) ⟨hoF.cell (i:=0) rfl,hoF.cell (i:=1) rfl,hoF.cell (i:=2) rfl,trivial⟩ rfl ⟨Wb,_,_,_,rfl,by rw [hend]; exact hWF,?_⟩
  exact below_of_grown (below_trans hB hK) hgr (fun q hq=>by cases hq; exact hKw)
 subst hT
 rw [Bool.and_eq_true,decide_eq_true_eq,decide_eq_true_eq] at hhb
 have hlt : k < s.ps.length:=by omega
 obtain rfl:=h1 (by omega)
 obtain ⟨hr1,hr2,hr3,hr4⟩:=hok.r _ (List.getElem_mem hlt)
 refine wp_skip ?_
 refine wp_seq (wp_block ?_)
 obtain ⟨B,hBq⟩ : ∃ B,B = w4.heap.size:=⟨_,rfl⟩
 refine wp_seq (seq_cut [(2,.bool both),(3,Vi max),(4,Vp M),(5,Vp N),(8,Vp K),(9,Vp Wb),(10,Vi k),(11,Vp B)] (· = newP w4 s.ps[k].1 s.ps[k].2) tab_ok hS ?_ (fun a w5 hS hw=>?_))
 ·subst hBq
  repeat first|refine zP rfl ?_|refine zK rfl ?_
  refine zL rfl (hW.o.cell (i:=0) rfl) ?_
  repeat first|refine zP rfl ?_|refine zK rfl ?_
  refine zI rfl (rfl) (hlt) ?_
  refine zA ([Vi s.ps[k].1,Vi s.ps[k].2]) rfl rfl ((h4 k hlt).1) ?_
  refine zB rfl ?_
  refine o_step0 rfl rfl (And.intro rfl (And.intro rfl (And.intro (own_cells2 (OwnB.new w4 [Vi 0,Vi 0] 48)) ?_)))
  exact o_nil ⟨⟨rfl,rfl,rfl,rfl,rfl,rfl,rfl,rfl,trivial⟩,rfl⟩
 have hP:=newP_below w4 s.ps[k].1 s.ps[k].2
 have hp:=newP_box w4 s.ps[k].1 s.ps[k].2
 rw [← hw] at hP hp
 rw [← hBq] at hp
 have hnf:=foot_boxP hW (k:=B) (by omega)
 have hW5:=hW.keep hP
 have hK5:=below_trans hK hP
 clear hw hP hBq h4 h2 h3 hW hK
 obtain ⟨p1,hp1⟩ : ∃ p1,s.ps[k].1 = p1:=⟨_,rfl⟩
 obtain ⟨q1,hq1⟩ : ∃ q1,s.ps[k].2 = q1:=⟨_,rfl⟩
 have hget : s.ps.getD k (0,0) = (p1,q1):=by
  rw [← hp1,← hq1]
  simp [List.getD_eq_getElem?_getD,hlt]
 rw [hp1,hq1] at hp
 rw [hp1] at hr1 hr2
 rw [hq1] at hr3 hr4
 refine wp_seq (seq_cut [(2,.bool both),(3,Vi max),(4,Vp M),(5,Vp N),(8,Vp K),(9,Vp Wb),(10,Vi k),(11,Vp B),(12,Vi 0)] (· = w5) tab_ok hS ?_ (fun a w6 hS hw=>?_))
 ·repeat first|refine zP rfl ?_|refine zK rfl ?_
  exact o_nil ⟨⟨rfl,rfl,rfl,rfl,rfl,rfl,rfl,rfl,rfl,trivial⟩,rfl⟩
 subst hw
 refine wp_block (loop0 hS (fun g E wr=>∃ (c : Nat) (vp vl vf : Value) (s' : WS),(c : Int) ≤ L1 ∧ g = L1.toNat - c ∧ E = [(2,.bool both),(3,Vi max),(4,Vp M),(5,Vp N),(8,Vp K),(9,Vp Wb),(10,Vi k),(11,Vp B),(12,Vi c)] ∧ RowKit.Below wc.heap.size wc wr ∧ WalkI wc.heap.size wr Wb vp vl vf s'.ps s'.ls s'.fs ∧ WOk n1 n2 s' (s.ps.length + c) ∧
   s' = rowM n1 n2 both k (p1,q1) c s ∧ BoxP wr B p1 q1 ∧ ¬ foot Wb vp vl vf B)
  L1.toNat ⟨0,_,vl,vf,s,hL0,rfl,rfl,hK5,hW5,⟨hok.r,hok.l,hok.f,Nat.le_refl _,hok.d⟩,rfl,hp,hnf⟩ ?_)
 clear hW5 hK5 hp hnf hS
 rintro g E wr a1' ⟨c,vp,vl,vf,s',hcL,rfl,rfl,hK,hW,hok',hs',hp,hnf⟩ hS
 refine wp_seq (wp_seq (seq_cut [(2,.bool both),(3,Vi max),(4,Vp M),(5,Vp N),(8,Vp K),(9,Vp Wb),(10,Vi k),(11,Vp B),(12,Vi c),(63,.bool (decide ((c : Int) < L1)))] (· = wr) tab_ok hS ?_ (fun a w7 hS hw=>?_)))
 ·repeat first|refine zP rfl ?_|refine zK rfl ?_
  refine zL rfl ((hx.keep hK).c0) ?_
  refine zC rfl (rfl) ?_
  repeat first|refine zP rfl ?_|refine zK rfl ?_
  exact o_nil ⟨⟨rfl,rfl,rfl,rfl,rfl,rfl,rfl,rfl,rfl,rfl,trivial⟩,rfl⟩
 subst hw
 refine cond hS rfl (fun hT=>?_) (fun hF=>?_)
 case refine_2=>
  refine wp_exit ?_
  repeat (first | refine then_exit ?_ | refine block_exit ?_ | refine block_other rfl ?_)
  obtain rfl : c = L1.toNat:=by have:=of_decide_eq_false hF; omega
  refine block_normal ?_
  refine then_normal ?_
  refine seq_cut [(2,.bool both),(3,Vi max),(4,Vp M),(5,Vp N),(8,Vp K),(9,Vp Wb),(10,Vi (k + 1 : Nat))] (· = w7) tab_ok hS ?_ (fun a w8 hS hw8=>?_)
  ·repeat first|refine zP rfl ?_|refine zK rfl ?_
   refine zN rfl (wrap_succ (by have:=hok.cap; omega)) ?_
   repeat first|refine zP rfl ?_|refine zK rfl ?_
   exact o_nil ⟨⟨rfl,rfl,rfl,rfl,rfl,rfl,rfl,trivial⟩,rfl⟩
  subst hw8
  refine ⟨max.toNat + 1 - (k + 1),_,by omega,⟨k + 1,vp,vl,vf,s',by omega,rfl,rfl,hK,hW,hok'.up (by omega),?_⟩,hS⟩
  rw [hgo,show max.toNat + 1 - k = (max.toNat + 1 - (k + 1)) + 1 by omega,walkGo,if_pos ⟨hlt,hhb.2⟩,hget,hs']
 have hcL1 : (c : Int) < L1:=of_decide_eq_true hT
 refine wp_skip ?_
 refine wp_seq (wp_block ?_)
 refine wp_seq (walked_r11 (hm.keep hK).n (hm2.keep hK).n (hx.keep hK) (hy.keep hK) hp hr2 hr4 (fun h0=>by rw [row_len hs1 h0 hr2]; exact hcL1) (fun h0=>by rw [row_len hs2 h0 hr4,← hLL]; exact hcL1) (by rfl) (hS.sub ⟨rfl,rfl,rfl,rfl,rfl,rfl,rfl,rfl,rfl,trivial⟩) (fun B2 a w8 hS h8=>?_))
 obtain ⟨hw8,hp8⟩:=h8
 have hg1:=stepM_range hs1 hr2 (show (0 : Int) ≤ (c : Int) by omega) hcL1
 have hg2:=stepM_range hs2 hr4 (show (0 : Int) ≤ (c : Int) by omega) (by rw [← hLL]; exact hcL1)
 have hp:=hp.keep hw8
 have hW8:=hW.keep hw8
 have hK8:=below_trans hK hw8
 clear hW hK
 obtain ⟨t1,ht1⟩ : ∃ t1,stepM n1 p1 c = t1:=⟨_,rfl⟩
 obtain ⟨t2,ht2⟩ : ∃ t2,stepM n2 q1 c = t2:=⟨_,rfl⟩
 rw [ht1] at hg1 hp8
 rw [ht2] at hg2 hp8
 have hrow : rowM n1 n2 both k (p1,q1) (c + 1) s = if okPut both t1 t2 = true then s'.put t1 t2 k c else s':=by rw [rowM_succ,← hs',rowGo,ht1,ht2]
 refine cut (F:=fun a' w'=>St Tryz.f48.ntmps a' [(2,.bool both),(3,Vi max),(4,Vp M),(5,Vp N),(8,Vp K),(9,Vp Wb),(10,Vi k),(11,Vp B),(12,Vi c)] ∧ RowKit.Below wc.heap.size wc w' ∧ ∃ vp vl vf,WalkI wc.heap.size w' Wb vp vl vf (rowM n1 n2 both k (p1,q1) (c + 1) s).ps (rowM n1 n2 both k (p1,q1) (c + 1) s).ls (rowM n1 n2 both k (p1,q1) (c + 1) s).fs ∧ BoxP w' B p1 q1 ∧ ¬ foot Wb vp vl vf B) ?_ ?_
 ·refine wp_seq (seq_cut [(2,.bool both),(3,Vi max),(4,Vp M),(5,Vp N),(8,Vp K),(9,Vp Wb),(10,Vi k),(11,Vp B),(12,Vi c),(13,Vp B2),(88,.bool (okPut both t1 t2))] (· = w8) tab_ok hS ?_ (fun a w9 hS hw=>?_))
  ·cases both
   case false=>
    repeat first|refine zP rfl ?_|refine zK rfl ?_
    exact o_nil ⟨⟨rfl,rfl,rfl,rfl,rfl,rfl,rfl,rfl,rfl,rfl,rfl,trivial⟩,rfl⟩
   case true=>
    repeat first|refine zP rfl ?_|refine zK rfl ?_
    refine zL rfl (hp8.c0) ?_
    repeat first|refine zP rfl ?_|refine zK rfl ?_
    cases e1 : decide (0 ≤ t1)
    case false=>
     refine zC rfl (e1) ?_
     repeat first|refine zP rfl ?_|refine zK rfl ?_
     exact o_nil ⟨⟨rfl,rfl,rfl,rfl,rfl,rfl,rfl,rfl,rfl,rfl,by rw [okPut,e1]; rfl,trivial⟩,rfl⟩
    case true=>
     refine zC rfl (e1) ?_
     repeat first|refine zP rfl ?_|refine zK rfl ?_
     refine zL rfl (hp8.c1) ?_
     refine zC rfl (rfl) ?_
     repeat first|refine zP rfl ?_|refine zK rfl ?_
     exact o_nil ⟨⟨rfl,rfl,rfl,rfl,rfl,rfl,rfl,rfl,rfl,rfl,by rw [okPut,e1]; rfl,trivial⟩,rfl⟩
  subst hw
  refine cond hS rfl (fun hT=>?_) (fun hF=>?_)
  ·refine seq_cut [(2,.bool both),(3,Vi max),(4,Vp M),(5,Vp N),(8,Vp K),(9,Vp Wb),(10,Vi k),(11,Vp B),(12,Vi c)] (fun w'=>RowKit.Below wc.heap.size wc w' ∧ ∃ vp vl vf,WalkI wc.heap.size w' Wb vp vl vf (rowM n1 n2 both k (p1,q1) (c + 1) s).ps (rowM n1 n2 both k (p1,q1) (c + 1) s).ls (rowM n1 n2 both k (p1,q1) (c + 1) s).fs ∧ BoxP w' B p1 q1 ∧ ¬ foot Wb vp vl vf B) tab_ok hS ?_ (fun a w3 hS hw=>⟨hS,hw⟩)
   repeat first|refine zP rfl ?_|refine zK rfl ?_
   refine zA ([Vi t1,Vi t2]) rfl rfl (hp8.cells) ?_
   repeat first|refine zP rfl ?_|refine zK rfl ?_
   refine zF rfl (en_put) (put_ws wc.heap.size Wb _ _ _ s' t1 t2 k c w9 (n1:=n1) (n2:=n2) (m:=s.ps.length + c) hW8 hok' (Nat.lt_of_le_of_lt hok'.cap hcap) hl1 hl2 hK8.size) ?_
   rintro e w10 ⟨rfl,vp',vl',vf',h1,h2⟩
   refine ⟨_,rfl,?_⟩
   have hBl : B < w9.heap.size:=boxP_lt hp
   repeat first|refine zP rfl ?_|refine zK rfl ?_
   exact o_nil ⟨⟨rfl,rfl,rfl,rfl,rfl,rfl,rfl,rfl,rfl,trivial⟩,off_below hK8 hK8.size hW8 h2,vp',vl',vf',(by rw [hrow,if_pos hT]; exact h1),h2.boxP hp hnf,(h2.off B hBl hnf).2⟩
  ·exact wp_skip ⟨hS.sub ⟨rfl,rfl,rfl,rfl,rfl,rfl,rfl,rfl,rfl,trivial⟩,hK8,vp,vl,vf,by rw [hrow,if_neg (by rw [hF]; decide)]; exact hW8,hp,hnf⟩
 rintro a w9 ⟨hS,hK9,vp',vl',vf',hW9,hp9,hnf9⟩
 refine block_normal ?_
 refine then_normal ?_
 refine seq_cut [(2,.bool both),(3,Vi max),(4,Vp M),(5,Vp N),(8,Vp K),(9,Vp Wb),(10,Vi k),(11,Vp B),(12,Vi (c + 1 : Nat))] (· = w9) tab_ok hS ?_ (fun a w10 hS hw10=>?_)
 ·repeat first|refine zP rfl ?_|refine zK rfl ?_
  refine zN rfl (wrap_succ (by omega)) ?_
  repeat first|refine zP rfl ?_|refine zK rfl ?_
  exact o_nil ⟨⟨rfl,rfl,rfl,rfl,rfl,rfl,rfl,rfl,rfl,trivial⟩,rfl⟩
 subst hw10
 have hok9 : WOk n1 n2 (rowM n1 n2 both k (p1,q1) (c + 1) s) (s.ps.length + (c + 1)):=by
  rw [hrow]
  split
  ·exact hok'.put hg1.1 hg1.2 hg2.1 hg2.2
  ·exact hok'.up (by omega)
 exact ⟨L1.toNat - (c + 1),_,by omega,⟨c + 1,vp',vl',vf',_,by omega,rfl,rfl,hK9,hW9,hok9,rfl,hp9,hnf9⟩,hS⟩
end Go.Proofs.YthcoppfiahnpoaaGreat
namespace Go.Proofs.YthcoppfiahnpoaaGreat
open Go Sym
theorem none_any (L : Int) (w : World) :
  Calls Tryz.prog 75 #[Vi L] w fun e w'=>e = .returned (.agg #[Vi L,Vi (-1),.slice none 0 0,.slice none 0 0]) ∧ RowKit.Below w.heap.size w w':=by
 refine Sym.enter (args:=[Vi L]) Tryz.func75 rfl rfl rfl (fun a0 hS0=>?_)
 refine wp_seq (seq_cut [(0,Vi L),(2,Vp w.heap.size)] (· = w.alloc (.cells #[Vi 0,Vi 0,.slice none 0 0,.slice none 0 0] 25)) tab_ok hS0 ?_ (fun a wc hS hw=>?_))
 ·refine zB rfl ?_
  repeat first|refine zP rfl ?_|refine zK rfl ?_
  exact o_nil ⟨⟨rfl,rfl,trivial⟩,rfl⟩
 have hB : RowKit.Below w.heap.size w wc:=by rw [hw]; exact below_alloc _ _
 have ho : OwnB wc w.heap.size 25 [Vi 0,Vi 0,.slice none 0 0,.slice none 0 0]:=by rw [hw]; exact OwnB.new _ _ _
 clear hw
 refine wp_seq (seq_cut [(2,Vp w.heap.size)] (· = wc.setCells w.heap.size 0 [Vi L,Vi (-1),.slice none 0 0,.slice none 0 0]) tab_ok hS ?_ (fun a w2 hS hw=>?_))
 ·repeat first|refine zP rfl ?_|refine zK rfl ?_
  refine o_step0 rfl rfl (And.intro rfl (And.intro rfl (And.intro (own_cells4 ho) ?_)))
  exact o_nil ⟨⟨rfl,trivial⟩,rfl⟩
 have hoF : OwnB w2 w.heap.size 25 [Vi L,Vi (-1),.slice none 0 0,.slice none 0 0]:=by rw [hw]; exact ho.sets rfl
 have hB2 : RowKit.Below w.heap.size w w2:=by rw [hw]; exact below_of_grown hB (grown_sets _ _ 0 _) (fun k hk=>by cases hk; exact Nat.le_refl _)
 refine wp_ret ?_
 repeat (first | refine then_ret ?_ | refine block_ret ?_)
 refine retc1 tab_ok hS rfl rfl rfl rfl (o:=0) (vs:=[Vi L,Vi (-1),.slice none 0 0,.slice none 0 0]) ⟨hoF.cell (i:=0) rfl,hoF.cell (i:=1) rfl,hoF.cell (i:=2) rfl,hoF.cell (i:=3) rfl,trivial⟩ rfl ⟨rfl,hB2⟩
set_option maxHeartbeats 1000000 in
theorem alike_any (L s : Int) (vn ve vc : Value) (next : List (List Int)) (fin : List Bool) (cls : List Int) (p q : Nat) (w : World) (hm : Ma w L s next fin vn ve) (hs : Shape L s next fin) (hc : Sl w vc cls PInt) (hcl : cls.length = next.length) (hp : p < next.length) (hq : q < next.length) :
  Calls Tryz.prog 99 #[.agg #[Vi L,Vi s,vn,ve],vc,Vi p,Vi q] w fun e w'=>e = .returned (.bool (alikeM next cls p q L.toNat)) ∧ RowKit.Below w.heap.size w w':=by
 refine Sym.enter (args:=[.agg #[Vi L,Vi s,vn,ve],vc,Vi p,Vi q]) Tryz.func99 rfl rfl rfl (fun a0 hS0=>?_)
 obtain ⟨M,hM⟩ : ∃ M,M = w.heap.size:=⟨_,rfl⟩
 refine wp_seq (seq_cut [(1,vc),(2,Vi p),(3,Vi q),(4,Vp M)] (· = w.alloc (.cells #[Vi L,Vi s,vn,ve] 25)) tab_ok hS0 ?_ (fun a wc hS hw=>?_))
 ·subst hM
  refine zB rfl ?_
  repeat first|refine zP rfl ?_|refine zK rfl ?_
  exact o_nil ⟨⟨rfl,rfl,rfl,rfl,trivial⟩,rfl⟩
 have hB : RowKit.Below w.heap.size w wc:=by rw [hw]; exact below_alloc _ _
 have hx : Box wc M L s vn ve:=by rw [hw,hM]; exact Box.new _ _ _ _ _ _
 clear hw hM
 replace hm:=hm.keep hB
 replace hc:=hc.keep hB (fun _ _ h=>h)
 obtain ⟨ac,bc,oc,cc,rfl,c1,c2,c3,c4⟩:=hc
 obtain ⟨_,hcp,rfl,-⟩:=c4 p (by omega)
 obtain ⟨_,hcq,rfl,-⟩:=c4 q (by omega)
 obtain rfl:=c1 (by omega)
 have hgp : cls.getD p 0 = cls[p]'(by omega):=by simp [List.getD_eq_getElem?_getD,show p < cls.length by omega]
 have hgq : cls.getD q 0 = cls[q]'(by omega):=by simp [List.getD_eq_getElem?_getD,show q < cls.length by omega]
 refine wp_seq (wp_seq (quiet_cut [(1,.slice (some ⟨bc,oc,none⟩) cls.length cc),(2,Vi p),(3,Vi q),(4,Vp M),(20,.bool (decide (cls.getD p 0 ≠ cls.getD q 0)))] tab_ok mixed (by kernel_rfl) hS ?_ (fun a w2 hS hw=>?_)))
 ·rw [hgp,hgq]
  repeat first|refine qP rfl ?_|refine qK rfl ?_
  refine qI rfl (rfl) ((by omega : p < cls.length)) ?_
  refine qL rfl (hcp) ?_
  repeat first|refine qP rfl ?_|refine qK rfl ?_
  refine qI rfl (rfl) ((by omega : q < cls.length)) ?_
  refine qL rfl (hcq) ?_
  refine qC rfl (rfl) ?_
  repeat first|refine qP rfl ?_|refine qK rfl ?_
  exact q_nil ⟨rfl,rfl,rfl,rfl,rfl,trivial⟩
 replace hx:=hx.keep hw
 replace hm:=hm.keep hw
 replace hB:=below_trans hB hw
 have c4' : ∀ i (h : i < cls.length),w2.cell? ⟨bc,oc + i,none⟩ = some (Vi cls[i]):=fun i h=>by
  obtain ⟨_,h1,rfl,-⟩:=c4 i h
  exact keep hw h1
 clear c4 hcp hcq hw
 refine cond hS rfl (fun hT=>?_) (fun hF=>?_)
 ·refine wp_seq (seq_cut [(8,.bool false)] (· = w2) tab_ok hS ?_ (fun a w3 hS hw=>?_))
  ·repeat first|refine zP rfl ?_|refine zK rfl ?_
   exact o_nil ⟨⟨rfl,trivial⟩,rfl⟩
  subst hw
  refine wp_ret ?_
  repeat (first | refine then_ret ?_ | refine block_ret ?_)
  exact ret1 hS rfl rfl ⟨by rw [alikeM,decide_eq_false (of_decide_eq_true hT),Bool.false_and],hB⟩
 have hal : alikeM next cls p q L.toNat = (List.range L.toNat).all fun c=>decide (clsOf cls ((next.getD p []).getD c (-1)) = clsOf cls ((next.getD q []).getD c (-1))):=by
  rw [alikeM,decide_eq_true (Decidable.not_not.1 (of_decide_eq_false hF)),Bool.true_and]
 refine wp_skip ?_
 refine wp_seq (wp_seq (seq_cut [(1,.slice (some ⟨bc,oc,none⟩) cls.length cc),(2,Vi p),(3,Vi q),(4,Vp M),(9,Vi 0)] (· = w2) tab_ok hS ?_ (fun a w3 hS hw=>?_)))
 ·repeat first|refine zP rfl ?_|refine zK rfl ?_
  exact o_nil ⟨⟨rfl,rfl,rfl,rfl,rfl,trivial⟩,rfl⟩
 subst hw
 refine wp_block (loop0 hS (fun g E wr=>∃ c : Nat,(c : Int) ≤ L ∧ g = L.toNat - c ∧ E = [(1,.slice (some ⟨bc,oc,none⟩) cls.length cc),(2,Vi p),(3,Vi q),(4,Vp M),(9,Vi c)] ∧ wr = w3 ∧ ∀ d : Nat,d < c → clsOf cls ((next.getD p []).getD d (-1)) = clsOf cls ((next.getD q []).getD d (-1)))
  L.toNat ⟨0,hs.L0,rfl,rfl,rfl,fun d hd=>by omega⟩ ?_)
 rintro g E wr a1 ⟨c,hcL,rfl,rfl,rfl,hgo⟩ hS
 refine wp_seq (wp_seq (seq_cut [(1,.slice (some ⟨bc,oc,none⟩) cls.length cc),(2,Vi p),(3,Vi q),(4,Vp M),(9,Vi c),(24,.bool (decide ((c : Int) < L)))] (· = wr) tab_ok hS ?_ (fun a w4 hS hw=>?_)))
 ·repeat first|refine zP rfl ?_|refine zK rfl ?_
  refine zL rfl (hx.c0) ?_
  refine zC rfl (rfl) ?_
  repeat first|refine zP rfl ?_|refine zK rfl ?_
  exact o_nil ⟨⟨rfl,rfl,rfl,rfl,rfl,rfl,trivial⟩,rfl⟩
 subst hw
 refine cond hS rfl (fun hT=>?_) (fun hF=>?_)
 case refine_2=>
  refine wp_exit ?_
  repeat (first | refine then_exit ?_ | refine block_exit ?_ | refine block_other rfl ?_)
  refine wp_seq (seq_cut [(8,.bool true)] (· = w4) tab_ok hS ?_ (fun a w5 hS hw=>?_))
  ·repeat first|refine zP rfl ?_|refine zK rfl ?_
   exact o_nil ⟨⟨rfl,trivial⟩,rfl⟩
  subst hw
  refine wp_ret ?_
  repeat (first | refine then_ret ?_ | refine block_ret ?_)
  refine ret1 hS rfl rfl ⟨?_,hB⟩
  rw [hal,List.all_eq_true.2 (fun d hd=>decide_eq_true (hgo d (by have:=List.mem_range.1 hd; have:=of_decide_eq_false hF; omega)))]
 have hcl1 : (c : Int) < L:=of_decide_eq_true hT
 obtain ⟨an,bn,on,cn,hvn,n1,n2,n3,n4⟩:=id hm.n
 subst hvn
 obtain rfl:=n1 (by omega)
 obtain ⟨up,hup,hrp,-⟩:=n4 p hp
 obtain ⟨uq,huq,hrq,-⟩:=n4 q hq
 obtain ⟨ap,bp,op,cp,rfl,p1,p2,p3,p4⟩:=hrp
 obtain ⟨aq,bq,oq,cq,rfl,q1,q2,q3,q4⟩:=hrq
 obtain ⟨hlp,hvp⟩:=hs.rows p hp
 obtain ⟨hlq,hvq⟩:=hs.rows q hq
 have hcp : c < next[p].length:=by omega
 have hcq : c < next[q].length:=by omega
 obtain rfl:=p1 (by omega)
 obtain rfl:=q1 (by omega)
 obtain ⟨_,hdp,rfl,-⟩:=p4 c hcp
 obtain ⟨_,hdq,rfl,-⟩:=q4 c hcq
 have gp : (next.getD p []).getD c (-1) = next[p][c]:=by simp [List.getD_eq_getElem?_getD,hp,hcp]
 have gq : (next.getD q []).getD c (-1) = next[q][c]:=by simp [List.getD_eq_getElem?_getD,hq,hcq]
 obtain ⟨x,hxv⟩ : ∃ x,next[p][c] = x:=⟨_,rfl⟩
 obtain ⟨y,hyv⟩ : ∃ y,next[q][c] = y:=⟨_,rfl⟩
 have hxr:=hvp c hcp
 have hyr:=hvq c hcq
 rw [hxv] at hdp gp hxr
 rw [hyv] at hdq gq hyr
 clear p4 q4 n4 hvp hvq
 refine wp_skip ?_
 refine wp_seq (wp_block ?_)
 refine wp_seq (seq_cut [(1,.slice (some ⟨bc,oc,none⟩) cls.length cc),(2,Vi p),(3,Vi q),(4,Vp M),(9,Vi c),(10,Vi (-1)),(11,Vi (-1))] (· = w4) tab_ok hS ?_ (fun a w5 hS hw=>?_))
 ·repeat first|refine zP rfl ?_|refine zK rfl ?_
  exact o_nil ⟨⟨rfl,rfl,rfl,rfl,rfl,rfl,rfl,trivial⟩,rfl⟩
 subst hw
 refine wp_seq (cut (F:=fun a' w'=>St Tryz.f99.ntmps a' [(1,.slice (some ⟨bc,oc,none⟩) cls.length cc),(2,Vi p),(3,Vi q),(4,Vp M),(9,Vi c),(10,Vi (clsOf cls x)),(11,Vi (-1))] ∧ w' = w5) ?_ ?_)
 ·refine wp_seq (seq_cut [(1,.slice (some ⟨bc,oc,none⟩) cls.length cc),(2,Vi p),(3,Vi q),(4,Vp M),(9,Vi c),(10,Vi (-1)),(11,Vi (-1)),(35,.bool (decide (0 ≤ x)))] (· = w5) tab_ok hS ?_ (fun a w6 hS hw=>?_))
  ·repeat first|refine zP rfl ?_|refine zK rfl ?_
   refine zL rfl (hx.c2) ?_
   repeat first|refine zP rfl ?_|refine zK rfl ?_
   refine zI rfl (rfl) (hp) ?_
   refine zL rfl (hup) ?_
   repeat first|refine zP rfl ?_|refine zK rfl ?_
   refine zI rfl (rfl) (hcp) ?_
   refine zL rfl (hdp) ?_
   refine zC rfl (rfl) ?_
   repeat first|refine zP rfl ?_|refine zK rfl ?_
   exact o_nil ⟨⟨rfl,rfl,rfl,rfl,rfl,rfl,rfl,rfl,trivial⟩,rfl⟩
  subst hw
  refine cond hS rfl (fun hT=>?_) (fun hF=>?_)
  ·have h0:=of_decide_eq_true hT
   obtain ⟨z,rfl⟩:=Int.eq_ofNat_of_zero_le h0
   have hz : z < cls.length:=by omega
   refine seq_cut [(1,.slice (some ⟨bc,oc,none⟩) cls.length cc),(2,Vi p),(3,Vi q),(4,Vp M),(9,Vi c),(10,Vi (clsOf cls z)),(11,Vi (-1))] (· = w6) tab_ok hS ?_ (fun a w7 hS hw=>⟨hS,hw⟩)
   have hcz : clsOf cls (z : Int) = cls[z]:=by simp [clsOf,List.getD_eq_getElem?_getD,hz]
   rw [hcz]
   repeat first|refine zP rfl ?_|refine zK rfl ?_
   refine zL rfl (hx.c2) ?_
   repeat first|refine zP rfl ?_|refine zK rfl ?_
   refine zI rfl (rfl) (hp) ?_
   refine zL rfl (hup) ?_
   repeat first|refine zP rfl ?_|refine zK rfl ?_
   refine zI rfl (rfl) (hcp) ?_
   refine zL rfl (hdp) ?_
   refine zI rfl (rfl) (hz) ?_
   refine zL rfl (c4' z hz) ?_
   repeat first|refine zP rfl ?_|refine zK rfl ?_
   exact o_nil ⟨⟨rfl,rfl,rfl,rfl,rfl,rfl,rfl,trivial⟩,rfl⟩
  ·have h0:=of_decide_eq_false hF
   exact wp_skip ⟨by rw [clsOf,if_neg h0]; exact hS.sub ⟨rfl,rfl,rfl,rfl,rfl,rfl,rfl,trivial⟩,rfl⟩
 rintro a w6 ⟨hS,rfl⟩
 refine wp_seq (cut (F:=fun a' w'=>St Tryz.f99.ntmps a' [(1,.slice (some ⟨bc,oc,none⟩) cls.length cc),(2,Vi p),(3,Vi q),(4,Vp M),(9,Vi c),(10,Vi (clsOf cls x)),(11,Vi (clsOf cls y))] ∧ w' = w6) ?_ ?_)
 ·refine wp_seq (seq_cut [(1,.slice (some ⟨bc,oc,none⟩) cls.length cc),(2,Vi p),(3,Vi q),(4,Vp M),(9,Vi c),(10,Vi (clsOf cls x)),(11,Vi (-1)),(55,.bool (decide (0 ≤ y)))] (· = w6) tab_ok hS ?_ (fun a w7 hS hw=>?_))
  ·repeat first|refine zP rfl ?_|refine zK rfl ?_
   refine zL rfl (hx.c2) ?_
   repeat first|refine zP rfl ?_|refine zK rfl ?_
   refine zI rfl (rfl) (hq) ?_
   refine zL rfl (huq) ?_
   repeat first|refine zP rfl ?_|refine zK rfl ?_
   refine zI rfl (rfl) (hcq) ?_
   refine zL rfl (hdq) ?_
   refine zC rfl (rfl) ?_
   repeat first|refine zP rfl ?_|refine zK rfl ?_
   exact o_nil ⟨⟨rfl,rfl,rfl,rfl,rfl,rfl,rfl,rfl,trivial⟩,rfl⟩
  subst hw
  refine cond hS rfl (fun hT=>?_) (fun hF=>?_)
  ·have h0:=of_decide_eq_true hT
   obtain ⟨z,rfl⟩:=Int.eq_ofNat_of_zero_le h0
   have hz : z < cls.length:=by omega
   refine seq_cut [(1,.slice (some ⟨bc,oc,none⟩) cls.length cc),(2,Vi p),(3,Vi q),(4,Vp M),(9,Vi c),(10,Vi (clsOf cls x)),(11,Vi (clsOf cls z))] (· = w7) tab_ok hS ?_ (fun a w8 hS hw=>⟨hS,hw⟩)
   have hcz : clsOf cls (z : Int) = cls[z]:=by simp [clsOf,List.getD_eq_getElem?_getD,hz]
   rw [hcz]
   repeat first|refine zP rfl ?_|refine zK rfl ?_
   refine zL rfl (hx.c2) ?_
   repeat first|refine zP rfl ?_|refine zK rfl ?_
   refine zI rfl (rfl) (hq) ?_
   refine zL rfl (huq) ?_
   repeat first|refine zP rfl ?_|refine zK rfl ?_
   refine zI rfl (rfl) (hcq) ?_
   refine zL rfl (hdq) ?_
   refine zI rfl (rfl) (hz) ?_
   refine zL rfl (c4' z hz) ?_
   repeat first|refine zP rfl ?_|refine zK rfl ?_
   exact o_nil ⟨⟨rfl,rfl,rfl,rfl,rfl,rfl,rfl,trivial⟩,rfl⟩
  ·have h0:=of_decide_eq_false hF
   exact wp_skip ⟨by rw [show clsOf cls y = -1 by rw [clsOf,if_neg h0]]; exact hS.sub ⟨rfl,rfl,rfl,rfl,rfl,rfl,rfl,trivial⟩,rfl⟩
 rintro a w7 ⟨hS,rfl⟩
 refine wp_seq (seq_cut [(1,.slice (some ⟨bc,oc,none⟩) cls.length cc),(2,Vi p),(3,Vi q),(4,Vp M),(9,Vi c),(69,.bool (decide (clsOf cls x ≠ clsOf cls y)))] (· = w7) tab_ok hS ?_ (fun a w8 hS hw=>?_))
 ·repeat first|refine zP rfl ?_|refine zK rfl ?_
  refine zC rfl (rfl) ?_
  repeat first|refine zP rfl ?_|refine zK rfl ?_
  exact o_nil ⟨⟨rfl,rfl,rfl,rfl,rfl,rfl,trivial⟩,rfl⟩
 subst hw
 refine cond hS rfl (fun hT=>?_) (fun hF=>?_)
 ·refine wp_seq (seq_cut [(8,.bool false)] (· = w8) tab_ok hS ?_ (fun a w9 hS hw=>?_))
  ·repeat first|refine zP rfl ?_|refine zK rfl ?_
   exact o_nil ⟨⟨rfl,trivial⟩,rfl⟩
  subst hw
  refine wp_ret ?_
  repeat (first | refine then_ret ?_ | refine block_ret ?_)
  refine ret1 hS rfl rfl ⟨?_,hB⟩
  refine congrArg (fun b=>Ending.returned (.bool b)) (Eq.symm ?_)
  rw [hal]
  refine Bool.eq_false_iff.2 (fun h=>of_decide_eq_true hT ?_)
  have:=of_decide_eq_true (List.all_eq_true.1 h c (List.mem_range.2 (by omega)))
  rwa [gp,gq] at this
 refine wp_skip ?_
 refine block_normal ?_
 refine then_normal ?_
 refine seq_cut [(1,.slice (some ⟨bc,oc,none⟩) cls.length cc),(2,Vi p),(3,Vi q),(4,Vp M),(9,Vi (c + 1 : Nat))] (· = w8) tab_ok hS ?_ (fun a w9 hS hw=>?_)
 ·have hL:=hm.L.2
  repeat first|refine zP rfl ?_|refine zK rfl ?_
  refine zN rfl (wrap_succ (by omega)) ?_
  repeat first|refine zP rfl ?_|refine zK rfl ?_
  exact o_nil ⟨⟨rfl,rfl,rfl,rfl,rfl,trivial⟩,rfl⟩
 subst hw
 refine ⟨L.toNat - (c + 1),_,by omega,⟨c + 1,by omega,rfl,rfl,rfl,fun d hd=>?_⟩,hS⟩
 rcases Nat.lt_or_ge d c with h | h
 ·exact hgo d h
 ·obtain rfl : d = c:=by omega
  rw [gp,gq]
  exact Decidable.not_not.1 (of_decide_eq_false hF)
end Go.Proofs.YthcoppfiahnpoaaGreat
namespace Go.Proofs.YthcoppfiahnpoaaGreat
open Go Sym
structure TwoRows (base : Nat) (w : World) (v1 v2 : Value) (l1 l2 : List Int) : Prop where
 a : w.ownsRow base 3 1 v1 l1.length (ints l1)
 b : w.ownsRow base 3 1 v2 l2.length (ints l2)
 ne : v1.ownBlock = none ∨ v1.ownBlock ≠ v2.ownBlock
theorem own_make (w : World) (base n : Nat) (hb : base ≤ w.heap.size) (hn : n ≤ 9223372036854775807) : (w.alloc (.cells (madeCells #[Vi 0] n) 3)).ownsRow base 3 1 (Vs w.heap.size n n) n (ints (List.replicate n 0)):=by
 have h:=World.ownsRow_lit (base:=base) (e:=3) (size:=1) w (madeCells #[Vi 0] n) n hb (by unfold maxLen; exact hn) (by simp [madeCells])
 rw [toList_madeCells_one] at h
 simpa [ints] using h
theorem own_cell {w : World} {base g n c : Nat} {l : List Int} (h : w.ownsRow base 3 1 (Vs g n c) n (ints l)) {j : Nat} (hj : j < l.length) (hn : n = l.length) : w.cell? ⟨g,0 + j,none⟩ = some (Vi l[j]):=by
 subst hn
 rw [Nat.zero_add,h.cellAt j (by omega)]
 simp [ints,hj]
theorem own_frozen {w : World} {base g n c : Nat} {l : List Int} (h : w.ownsRow base 3 1 (Vs g n c) n (ints l)) (j : Nat) : w.frozen? ⟨g,0 + j,none⟩ = false:=by
 rw [Nat.zero_add]; exact h.frozenAt j
theorem own_stored {w : World} {base g n c : Nat} {l : List Int} (h : w.ownsRow base 3 1 (Vs g n c) n (ints l)) (j : Nat) (x : Int) :
  (w.setCell ⟨g,j,none⟩ (Vi x)).ownsRow base 3 1 (Vs g n c) n (ints (l.set j x)):=by
 have:=(h.stored j (Vi x)).1
 rwa [show (ints l).set j (Vi x) = ints (l.set j x) from (List.map_set ..).symm] at this
theorem found_start (L s : Int) (vn ve : Value) (next : List (List Int)) (fin : List Bool) (w : World) (hm : Ma w L s next fin vn ve) (hn : next.length ≤ 100000000)
  {Q : Exit → Act → World → Prop} {a : Act} {M : Nat} (hx : Box w M L s vn ve) {base : Nat} (hb : base ≤ w.heap.size) {ops : Array Oper} {id : Nat} (hops : Sym.regionOf Tryz.f76.body 1 = some (id,ops))
  (hS : St Tryz.f76.ntmps a [(1,Vp M)])
  (hq : ∀ a' w',St Tryz.f76.ntmps a' [(1,Vp M),(4,Vs w.heap.size next.length next.length)] → RowKit.Below w.heap.size w w' ∧ w'.ownsRow base 3 1 (Vs w.heap.size next.length next.length) next.length (ints (List.replicate next.length 0)) → Q .normal a' w') :
  (Code.region id ops false).wp Tryz.prog Q a w:=by
 cases hops
 obtain ⟨an,cn,rfl⟩:=hm.n.len
 refine seq_cut [(1,Vp M),(4,Vs w.heap.size next.length next.length)] (fun w'=>RowKit.Below w.heap.size w w' ∧ w'.ownsRow base 3 1 (Vs w.heap.size next.length next.length) next.length (ints (List.replicate next.length 0))) tab_ok hS ?_ hq
 repeat first|refine zP rfl ?_|refine zK rfl ?_
 refine zL rfl (hx.c2) ?_
 repeat first|refine zP rfl ?_|refine zK rfl ?_
 refine zM (next.length) rfl rfl rfl rfl rfl ((by show 8 * _ ≤ _; omega)) ((by omega)) ?_
 repeat first|refine zP rfl ?_|refine zK rfl ?_
 exact o_nil ⟨⟨rfl,rfl,trivial⟩,⟨below_alloc _ _,own_make _ _ _ hb (by omega)⟩⟩
theorem app_next {base P n : Nat} {w w2 : World} {v v' : Value} {l l2 : List Int} {x : Int} (hown : w2.ownsRow base 3 1 v' (l.length + 1) (ints l ++ [Vi x])) (hgr : w.grownBy w2 v.ownBlock) (hat : v'.ownBlock = v.ownBlock ∨ v'.ownBlock = some w.heap.size)
  (hp : w.ownsRow base 3 1 (Vs P n n) n (ints l2)) (hne : v.ownBlock ≠ some P) :
  w2.ownsRow base 3 1 v' (l ++ [x]).length (ints (l ++ [x])) ∧ w2.ownsRow base 3 1 (Vs P n n) n (ints l2) ∧ v'.ownBlock ≠ some P:=by
 refine ⟨by simpa [ints] using hown,hp.kept hgr (.inr (fun e=>hne e.symm)),?_⟩
 rcases hat with h | h
 ·rw [h]; exact hne
 ·rw [h]
  intro e
  have:=(hp.lt P rfl).2
  simp only [Option.some.injEq] at e
  omega
theorem found_any (L s : Int) (vn ve : Value) (next : List (List Int)) (fin : List Bool) (w : World) (hm : Ma w L s next fin vn ve) (hs : Shape L s next fin) (hn : next.length ≤ 100000000) :
  Calls Tryz.prog 76 #[.agg #[Vi L,Vi s,vn,ve]] w fun e w'=>∃ vr vp,e = .returned (.tuple #[vr,vp]) ∧ TwoRows w.heap.size w' vr vp (foundM s next L.toNat).rows (foundM s next L.toNat).place ∧ RowKit.Below w.heap.size w w':=by
 refine Sym.enter (args:=[.agg #[Vi L,Vi s,vn,ve]]) Tryz.func76 rfl rfl rfl (fun a0 hS0=>?_)
 obtain ⟨M,hM⟩ : ∃ M,M = w.heap.size:=⟨_,rfl⟩
 refine wp_seq (seq_cut [(1,Vp M)] (· = w.alloc (.cells #[Vi L,Vi s,vn,ve] 25)) tab_ok hS0 ?_ (fun a wc hS hw=>?_))
 ·subst hM
  refine zB rfl ?_
  repeat first|refine zP rfl ?_|refine zK rfl ?_
  exact o_nil ⟨⟨rfl,trivial⟩,rfl⟩
 have hB : RowKit.Below w.heap.size w wc:=by rw [hw]; exact below_alloc _ _
 have hx : Box wc M L s vn ve:=by rw [hw,hM]; exact Box.new _ _ _ _ _ _
 clear hw hM
 replace hm:=hm.keep hB
 refine wp_seq (found_start L s vn ve next fin wc hm hn hx (base:=wc.heap.size) (Nat.le_refl _) (by rfl) hS (fun a w1 hS h1=>?_))
 obtain ⟨P,hP⟩ : ∃ P,P = wc.heap.size:=⟨_,rfl⟩
 rw [← hP] at hS
 obtain ⟨hK1,hp1⟩:=h1
 rw [← hP] at hp1 hK1
 refine wp_seq (wp_seq (seq_cut [(1,Vp M),(4,Vs P next.length next.length),(5,Vi 0)] (· = w1) tab_ok hS ?_ (fun a w2 hS hw=>?_)))
 ·repeat first|refine zP rfl ?_|refine zK rfl ?_
  exact o_nil ⟨⟨rfl,rfl,rfl,trivial⟩,rfl⟩
 subst hw
 refine wp_block (loop0 hS (fun g E wr=>∃ k : Nat,k ≤ next.length ∧ g = next.length - k ∧ E = [(1,Vp M),(4,Vs P next.length next.length),(5,Vi k)] ∧ RowKit.Below P wc wr ∧
   wr.ownsRow P 3 1 (Vs P next.length next.length) next.length (ints (List.replicate k (-1) ++ List.replicate (next.length - k) 0)))
  next.length ⟨0,Nat.zero_le _,rfl,rfl,hK1,hp1⟩ ?_)
 clear hK1 hp1
 rintro g E wr a1 ⟨k,hk,rfl,rfl,hK,hp⟩ hS
 refine wp_seq (wp_seq (seq_cut [(1,Vp M),(4,Vs P next.length next.length),(5,Vi k),(17,.bool (decide ((k : Int) < next.length)))] (· = wr) tab_ok hS ?_ (fun a w3 hS hw=>?_)))
 ·repeat first|refine zP rfl ?_|refine zK rfl ?_
  refine zC rfl (rfl) ?_
  repeat first|refine zP rfl ?_|refine zK rfl ?_
  exact o_nil ⟨⟨rfl,rfl,rfl,rfl,trivial⟩,rfl⟩
 subst hw
 refine cond hS rfl (fun hT=>?_) (fun hF=>?_)
 case refine_2=>
  refine wp_exit ?_
  repeat (first | refine then_exit ?_ | refine block_exit ?_ | refine block_other rfl ?_)
  obtain rfl : k = next.length:=by have:=of_decide_eq_false hF; omega
  rw [Nat.sub_self,List.replicate_zero,List.append_nil] at hp
  refine wp_seq (seq_cut [(1,Vp M),(4,Vs P next.length next.length),(6,Vs w3.heap.size 0 0)] (· = w3.alloc (.cells #[] 3)) tab_ok hS ?_ (fun a w4 hS hw=>?_))
  ·repeat first|refine zP rfl ?_|refine zK rfl ?_
   refine o_step rfl rfl rfl ?_
   refine Exists.intro [] (Exists.intro #[] (And.intro (And.intro rfl rfl) (And.intro (by decide) (And.intro (by simp [Instr.fill,madeCells]) ?_))))
   repeat first|refine zP rfl ?_|refine zK rfl ?_
   exact o_nil ⟨⟨rfl,rfl,rfl,trivial⟩,rfl⟩
  have hPlt:=(hp.lt P rfl).2
  have hr:=own_lit w3 P 3 (by omega)
  have hp4:=hp.alloc (.cells #[] 3)
  have hne : (Vs w3.heap.size 0 0).ownBlock ≠ some P:=by simp only [Value.ownBlock,ne_eq,Option.some.injEq]; omega
  have hK4:=below_trans (hP ▸ hK : RowKit.Below wc.heap.size wc w3) (below_alloc w3 (.cells #[] 3))
  rw [← hw] at hr hp4 hK4
  obtain ⟨vr,hvr⟩ : ∃ vr,(Vs w3.heap.size 0 0) = vr:=⟨_,rfl⟩
  rw [hvr] at hr hne hS
  have hvr' : ∃ g c,vr = .slice g 0 c:=⟨_,_,hvr.symm⟩
  clear hw hK hp hvr
  have hPw : w.heap.size ≤ P:=by rw [hP]; exact hB.size
  have hPb : P ≤ w4.heap.size:=by have:=hK4.size; omega
  refine wp_seq (wp_seq (seq_cut [(1,Vp M),(4,Vs P next.length next.length),(6,vr),(26,.bool (decide (s < 0)))] (· = w4) tab_ok hS ?_ (fun a w5 hS hw=>?_)))
  ·repeat first|refine zP rfl ?_|refine zK rfl ?_
   refine zL rfl ((hx.keep hK4).c1) ?_
   refine zC rfl (rfl) ?_
   repeat first|refine zP rfl ?_|refine zK rfl ?_
   exact o_nil ⟨⟨rfl,rfl,rfl,rfl,trivial⟩,rfl⟩
  subst hw
  refine cond hS rfl (fun hT=>?_) (fun hF=>?_)
  ·refine wp_seq (seq_cut [(2,vr),(3,Vs P next.length next.length)] (· = w5) tab_ok hS ?_ (fun a w6 hS hw=>?_))
   ·repeat first|refine zP rfl ?_|refine zK rfl ?_
    exact o_nil ⟨⟨rfl,rfl,trivial⟩,rfl⟩
   subst hw
   have hfm : foundM s next L.toNat = ⟨[],List.replicate next.length (-1)⟩:=by rw [foundM,if_pos (of_decide_eq_true hT)]
   refine wp_ret ?_
   repeat (first | refine then_ret ?_ | refine block_ret ?_)
   refine ret2 hS rfl rfl rfl ⟨vr,_,rfl,?_,below_trans hB hK4⟩
   rw [hfm]
   exact ⟨own_mono hr hPw,by simpa using own_mono hp4 hPw,.inr hne⟩
  have hs0 : 0 ≤ s:=by have:=of_decide_eq_false hF; omega
  obtain ⟨z,rfl⟩:=Int.eq_ofNat_of_zero_le hs0
  have hz : z < next.length:=by have:=hs.s2; omega
  have hfm : foundM (z : Int) next L.toNat = foundGo next L.toNat next.length 0 ⟨[(z : Int)],(List.replicate next.length (-1)).set z 0⟩:=by rw [foundM,if_neg (by omega)]; rfl
  refine wp_skip ?_
  refine wp_seq (seq_cutx (α:=Value) (fun v=>[(1,Vp M),(4,Vs P next.length next.length),(6,v)]) (fun v w'=>RowKit.Below wc.heap.size wc w' ∧ P ≤ w'.heap.size ∧ w'.ownsRow P 3 1 v [(z : Int)].length (ints [(z : Int)]) ∧ w'.ownsRow P 3 1 (Vs P next.length next.length) next.length (ints (List.replicate next.length (-1))) ∧ v.ownBlock ≠ some P) tab_ok hS ?_ (fun v a w6 hS h6=>?_))
  ·obtain ⟨g,c,rfl⟩:=hvr'
   repeat first|refine zP rfl ?_|refine zK rfl ?_
   refine zL rfl ((hx.keep hK4).c1) ?_
   repeat first|refine zP rfl ?_|refine zK rfl ?_
   refine o_step rfl rfl rfl ?_
   refine Exists.intro [(0,Vi ((z : Int)))] (Exists.intro #[Vi ((z : Int))] (And.intro (And.intro rfl rfl) (And.intro (by decide) (And.intro (fillI _ _ _) ?_))))
   have hy1:=below_alloc w5 (.cells #[Vi z] 3)
   have ask : AppAsk (w5.alloc (.cells #[Vi z] 3)) ⟨3,.int .i64,1,8,Vi 0⟩ (.slice g 0 c) 0 [] (Vs w5.heap.size 1 1) 1 [Vi z] P:=
    ⟨hr.alloc _,.inr ⟨_,0,_,rfl,cell_alloc_new rfl,trivial⟩,rfl,(by simp [Value.oneCell']),(by omega),(by decide),Nat.le_trans hPb hy1.size⟩
   refine o_step rfl rfl rfl ?_
   refine Exists.intro _ (Exists.intro _ (Exists.intro _ (Exists.intro _ (Exists.intro _ (And.intro (ask) (And.intro (fun _ h=>h.symm) (And.intro (by decide) ?_)))))))
   rintro v' w2 hown hgr - hat
   obtain ⟨e1,e2,e3⟩:=app_next (l:=[]) hown hgr hat (hp4.alloc _) hne
   have e4:=below_of_grown (below_trans hK4 hy1) hgr (fun q hq=>by have:=(hr.lt q hq).1; omega)
   repeat first|refine zP rfl ?_|refine zK rfl ?_
   exact o_nil ⟨v',⟨rfl,rfl,rfl,trivial⟩,e4,Nat.le_trans (Nat.le_trans hPb hy1.size) hgr.size,e1,e2,e3⟩
  clear hr hp4 hne hvr' hK4 hPb
  obtain ⟨hK6,hPb,hr6,hp6,hne6⟩:=h6
  refine wp_seq (seq_cut [(1,Vp M),(4,Vs P next.length next.length),(6,v)] (· = w6.setCell ⟨P,0 + z,none⟩ (Vi 0)) tab_ok hS ?_ (fun a w7 hS hw=>?_))
  ·repeat first|refine zP rfl ?_|refine zK rfl ?_
   refine zL rfl ((hx.keep hK6).c1) ?_
   refine zI rfl (rfl) (hz) ?_
   refine zS rfl rfl (own_cell hp6 (j:=z) (by simp; omega) (by simp)) (own_frozen hp6 z) ?_
   exact o_nil ⟨⟨rfl,rfl,rfl,trivial⟩,rfl⟩
  rw [Nat.zero_add] at hw
  have hp7:=own_stored hp6 z 0
  have hg7:=(hp6.stored z (Vi 0)).2
  have hr7:=hr6.kept hg7 (.inr hne6)
  have hK7:=below_of_grown hK6 hg7 (fun q hq=>by cases hq; omega)
  have hPb7:=Nat.le_trans hPb hg7.size
  rw [← hw] at hp7 hr7 hK7 hPb7
  clear hw hp6 hr6 hK6 hg7 hPb
  have hok : FOk next.length ⟨[(z : Int)],(List.replicate next.length (-1)).set z 0⟩:=⟨by simp,fun x hx=>by
   rw [List.mem_singleton.1 hx]
   refine ⟨by omega,by omega,?_⟩
   simp [List.getD_eq_getElem?_getD,hz],by simp⟩
  refine wp_seq (wp_seq (seq_cut [(1,Vp M),(4,Vs P next.length next.length),(6,v),(7,Vi 0)] (· = w7) tab_ok hS ?_ (fun a w8 hS hw=>?_)))
  ·repeat first|refine zP rfl ?_|refine zK rfl ?_
   exact o_nil ⟨⟨rfl,rfl,rfl,rfl,trivial⟩,rfl⟩
  subst hw
  refine wp_block (loop0 hS (fun g E wr=>∃ (k : Nat) (v : Value) (f : FS),k ≤ next.length ∧ g = next.length - k ∧ E = [(1,Vp M),(4,Vs P next.length next.length),(6,v),(7,Vi k)] ∧ RowKit.Below wc.heap.size wc wr ∧ P ≤ wr.heap.size ∧ wr.ownsRow P 3 1 v f.rows.length (ints f.rows) ∧ wr.ownsRow P 3 1 (Vs P next.length next.length) next.length (ints f.place) ∧ v.ownBlock ≠ some P ∧ FOk next.length f ∧
    foundM (z : Int) next L.toNat = foundGo next L.toNat (next.length - k) k f)
   next.length ⟨0,v,_,Nat.zero_le _,rfl,rfl,hK7,hPb7,hr7,hp7,hne6,hok,hfm⟩ ?_)
  clear hK7 hPb7 hr7 hp7 hne6 hok hfm hS
  rintro g E wr a1 ⟨k,v,f,hk,rfl,rfl,hK,hPb,hr,hp,hne,hok,hgo⟩ hS
  have hcap:=hok.cap
  have hII : ∀ x ∈ f.rows,I64 x:=fun x hx=>by obtain ⟨a,b,_⟩:=hok.r x hx; exact ⟨by omega,by omega⟩
  obtain ⟨⟨av,bv,ov,cv,rfl,v1,v2,v3,v4⟩,-⟩:=sl_own (P:=PInt) (l:=f.rows) hr rfl (fun i hi=>⟨_,by simp [ints,hi],rfl,hII _ (List.getElem_mem hi)⟩)
  refine wp_seq (wp_seq (seq_cut [(1,Vp M),(4,Vs P next.length next.length),(6,.slice av f.rows.length cv),(7,Vi k),(41,.bool (decide ((k : Int) < f.rows.length)))] (· = wr) tab_ok hS ?_ (fun a w8 hS hw=>?_)))
  ·repeat first|refine zP rfl ?_|refine zK rfl ?_
   refine zC rfl (rfl) ?_
   repeat first|refine zP rfl ?_|refine zK rfl ?_
   exact o_nil ⟨⟨rfl,rfl,rfl,rfl,rfl,trivial⟩,rfl⟩
  subst hw
  refine cond hS rfl (fun hT=>?_) (fun hF=>?_)
  case refine_2=>
   refine wp_exit ?_
   repeat (first | refine then_exit ?_ | refine block_exit ?_ | refine block_other rfl ?_)
   have hge : ¬ k < f.rows.length:=by have:=of_decide_eq_false hF; omega
   refine wp_seq (seq_cut [(2,.slice av f.rows.length cv),(3,Vs P next.length next.length)] (· = w8) tab_ok hS ?_ (fun a w9 hS hw=>?_))
   ·repeat first|refine zP rfl ?_|refine zK rfl ?_
    exact o_nil ⟨⟨rfl,rfl,trivial⟩,rfl⟩
   subst hw
   have hend : foundM (z : Int) next L.toNat = f:=by
    rw [hgo]
    cases next.length - k with
    | zero=>rfl
    | succ g=>rw [foundGo,if_neg hge]
   refine wp_ret ?_
   repeat (first | refine then_ret ?_ | refine block_ret ?_)
   refine ret2 hS rfl rfl rfl ⟨_,_,rfl,?_,below_trans hB hK⟩
   rw [hend]
   exact ⟨own_mono hr hPw,by rw [hok.p]; exact own_mono hp hPw,.inr hne⟩
  have hlt : k < f.rows.length:=by have:=of_decide_eq_true hT; omega
  obtain ⟨r,hrk⟩ : ∃ r,f.rows[k] = r:=⟨_,rfl⟩
  have hget : f.rows.getD k 0 = r:=by simp [List.getD_eq_getElem?_getD,hlt,hrk]
  have hrq : f.rows[k]? = some r:=by simp [hlt,hrk]
  have hrr:=hok.r r (hrk ▸ List.getElem_mem hlt)
  obtain ⟨rn,rfl⟩:=Int.eq_ofNat_of_zero_le hrr.1
  have hrn : rn < next.length:=by omega
  clear v1 v2 v3 v4
  refine wp_skip ?_
  refine wp_seq (wp_block ?_)
  refine wp_seq (seq_cut [(1,Vp M),(4,Vs P next.length next.length),(6,.slice av f.rows.length cv),(7,Vi k),(8,Vi 0)] (· = w8) tab_ok hS ?_ (fun a w9 hS hw=>?_))
  ·repeat first|refine zP rfl ?_|refine zK rfl ?_
   exact o_nil ⟨⟨rfl,rfl,rfl,rfl,rfl,trivial⟩,rfl⟩
  subst hw
  refine wp_block (loop0 hS (fun g E wr=>∃ (c : Nat) (v : Value) (f' : FS),(c : Int) ≤ L ∧ g = L.toNat - c ∧ E = [(1,Vp M),(4,Vs P next.length next.length),(6,v),(7,Vi k),(8,Vi c)] ∧ RowKit.Below wc.heap.size wc wr ∧ P ≤ wr.heap.size ∧ wr.ownsRow P 3 1 v f'.rows.length (ints f'.rows) ∧ wr.ownsRow P 3 1 (Vs P next.length next.length) next.length (ints f'.place) ∧ v.ownBlock ≠ some P ∧ FOk next.length f' ∧
    f'.rows[k]? = some (rn : Int) ∧ f' = FS.row next rn c f)
   L.toNat ⟨0,_,f,hs.L0,rfl,rfl,hK,hPb,hr,hp,hne,hok,hrq,rfl⟩ ?_)
  clear hK hPb hr hp hne hS
  rintro g E wr a1' ⟨c,v,f',hcL,rfl,rfl,hK,hPb,hr,hp,hne,hok',hrk',hf'⟩ hS
  refine wp_seq (wp_seq (seq_cut [(1,Vp M),(4,Vs P next.length next.length),(6,v),(7,Vi k),(8,Vi c),(47,.bool (decide ((c : Int) < L)))] (· = wr) tab_ok hS ?_ (fun a w9 hS hw=>?_)))
  ·repeat first|refine zP rfl ?_|refine zK rfl ?_
   refine zL rfl ((hx.keep hK).c0) ?_
   refine zC rfl (rfl) ?_
   repeat first|refine zP rfl ?_|refine zK rfl ?_
   exact o_nil ⟨⟨rfl,rfl,rfl,rfl,rfl,rfl,trivial⟩,rfl⟩
  subst hw
  refine cond hS rfl (fun hT=>?_) (fun hF=>?_)
  case refine_2=>
   refine wp_exit ?_
   repeat (first | refine then_exit ?_ | refine block_exit ?_ | refine block_other rfl ?_)
   obtain rfl : c = L.toNat:=by have:=of_decide_eq_false hF; omega
   refine block_normal ?_
   refine then_normal ?_
   refine seq_cut [(1,Vp M),(4,Vs P next.length next.length),(6,v),(7,Vi (k + 1 : Nat))] (· = w9) tab_ok hS ?_ (fun a w10 hS hw=>?_)
   ·repeat first|refine zP rfl ?_|refine zK rfl ?_
    refine zN rfl (wrap_succ (by omega)) ?_
    repeat first|refine zP rfl ?_|refine zK rfl ?_
    exact o_nil ⟨⟨rfl,rfl,rfl,rfl,trivial⟩,rfl⟩
   subst hw
   refine ⟨next.length - (k + 1),_,by omega,⟨k + 1,v,f',by omega,rfl,rfl,hK,hPb,hr,hp,hne,hok',?_⟩,hS⟩
   rw [hgo,show next.length - k = (next.length - (k + 1)) + 1 by omega,foundGo,if_pos hlt,hget,hf']
  have hcL1 : (c : Int) < L:=of_decide_eq_true hT
  have hII : ∀ x ∈ f'.rows,I64 x:=fun x hx=>by obtain ⟨a,b,_⟩:=hok'.r x hx; exact ⟨by omega,by omega⟩
  obtain ⟨⟨av,bv,ov,cv,rfl,v1,v2,v3,v4⟩,-⟩:=sl_own (P:=PInt) (l:=f'.rows) hr rfl (fun i hi=>⟨_,by simp [ints,hi],rfl,hII _ (List.getElem_mem hi)⟩)
  have hlt' : k < f'.rows.length:=(List.getElem?_eq_some_iff.1 hrk').1
  obtain rfl:=v1 (by omega)
  obtain ⟨_,hcr,rfl,-⟩:=v4 k hlt'
  rw [(List.getElem?_eq_some_iff.1 hrk').2] at hcr
  obtain ⟨an,bn,on,cn,hvn,m1,m2,m3,m4⟩:=id (hm.keep hK).n
  subst hvn
  obtain rfl:=m1 (by omega)
  obtain ⟨u,hu,hpu,-⟩:=m4 rn hrn
  obtain ⟨au,bu,ou,cu,rfl,u1,u2,u3,u4⟩:=hpu
  obtain ⟨hlu,hvu⟩:=hs.rows rn hrn
  have hcu : c < next[rn].length:=by omega
  obtain rfl:=u1 (by omega)
  obtain ⟨_,hdu,rfl,-⟩:=u4 c hcu
  have gt : (next.getD (rn : Int).toNat []).getD c (-1) = next[rn][c]:=by simp [List.getD_eq_getElem?_getD,hrn,hcu]
  obtain ⟨t,htv⟩ : ∃ t,next[rn][c] = t:=⟨_,rfl⟩
  have htr:=hvu c hcu
  rw [htv] at hdu gt htr
  have hrow : FS.row next rn (c + 1) f = FS.step next rn f' c:=by rw [FS.row_succ,← hf']
  have hok2 : FOk next.length (FS.step next rn f' c):=hok'.step (by rw [gt]; exact htr.2)
  have hrk2:=FS.step_rows (next:=next) (r:=rn) (c:=c) hrk'
  have hstep : FS.step next rn f' c = if 0 ≤ t ∧ f'.place.getD t.toNat 0 < 0 then ⟨f'.rows ++ [t],f'.place.set t.toNat f'.rows.length⟩ else f':=by rw [FS.step,gt]
  clear v4 m4 u4 hvu
  refine wp_skip ?_
  refine wp_seq (wp_block ?_)
  refine wp_seq (quiet_cut [(1,Vp M),(4,Vs P next.length next.length),(6,.slice (some ⟨bv,ov,none⟩) f'.rows.length cv),(7,Vi k),(8,Vi c),(9,Vi t)] tab_ok mixed (by kernel_rfl) hS ?_ (fun a w10 hS hw=>?_))
  ·repeat first|refine qP rfl ?_|refine qK rfl ?_
   refine qL rfl ((hx.keep hK).c2) ?_
   repeat first|refine qP rfl ?_|refine qK rfl ?_
   refine qI rfl (rfl) (hlt') ?_
   refine qL rfl (hcr) ?_
   refine qI rfl (rfl) (hrn) ?_
   refine qL rfl (hu) ?_
   repeat first|refine qP rfl ?_|refine qK rfl ?_
   refine qI rfl (rfl) (hcu) ?_
   refine qL rfl (hdu) ?_
   repeat first|refine qP rfl ?_|refine qK rfl ?_
   exact q_nil ⟨rfl,rfl,rfl,rfl,rfl,rfl,trivial⟩
  have hg10 : w9.grownBy w10 none:=⟨hw.os,hw.tape,hw.output,hw.size,fun q hq _=>hw.block q hq⟩
  replace hr:=hr.kept hg10 (none_or _)
  replace hp:=hp.kept hg10 (none_or _)
  replace hK:=below_trans hK hw
  replace hPb:=Nat.le_trans hPb hw.size
  clear hw hg10 hu hdu hcr
  obtain ⟨hb9,hhb9⟩ : ∃ b,(decide (0 ≤ t) && decide (f'.place.getD t.toNat 0 < 0)) = b:=⟨_,rfl⟩
  refine cut (F:=fun a' w'=>∃ v,St Tryz.f76.ntmps a' [(1,Vp M),(4,Vs P next.length next.length),(6,v),(7,Vi k),(8,Vi c)] ∧ RowKit.Below wc.heap.size wc w' ∧ P ≤ w'.heap.size ∧ w'.ownsRow P 3 1 v (FS.step next rn f' c).rows.length (ints (FS.step next rn f' c).rows) ∧ w'.ownsRow P 3 1 (Vs P next.length next.length) next.length (ints (FS.step next rn f' c).place) ∧ v.ownBlock ≠ some P) ?_ ?_
  ·refine wp_seq (seq_cut [(1,Vp M),(4,Vs P next.length next.length),(6,.slice (some ⟨bv,ov,none⟩) f'.rows.length cv),(7,Vi k),(8,Vi c),(9,Vi t),(69,.bool hb9)] (· = w10) tab_ok hS ?_ (fun a w11 hS hw=>?_))
   ·repeat first|refine zP rfl ?_|refine zK rfl ?_
    cases e1 : decide (0 ≤ t)
    case false=>
     rw [e1,Bool.false_and] at hhb9; subst hhb9
     refine zC rfl (e1) ?_
     repeat first|refine zP rfl ?_|refine zK rfl ?_
     exact o_nil ⟨⟨rfl,rfl,rfl,rfl,rfl,rfl,rfl,trivial⟩,rfl⟩
    case true=>
     rw [e1,Bool.true_and] at hhb9
     have h0:=of_decide_eq_true e1
     obtain ⟨tn,rfl⟩:=Int.eq_ofNat_of_zero_le h0
     have htn : tn < f'.place.length:=by rw [hok'.p]; omega
     have hgd : f'.place.getD (tn : Int).toNat 0 = f'.place[tn]:=by simp [List.getD_eq_getElem?_getD,htn]
     rw [hgd] at hhb9
     refine zC rfl (e1) ?_
     repeat first|refine zP rfl ?_|refine zK rfl ?_
     refine zI rfl (rfl) ((by omega : tn < next.length)) ?_
     refine zL rfl (own_cell hp htn hok'.p.symm) ?_
     refine zC rfl (hhb9) ?_
     repeat first|refine zP rfl ?_|refine zK rfl ?_
     exact o_nil ⟨⟨rfl,rfl,rfl,rfl,rfl,rfl,rfl,trivial⟩,rfl⟩
   subst hw
   refine cond hS rfl (fun hT=>?_) (fun hF=>?_)
   ·have hcnd : 0 ≤ t ∧ f'.place.getD t.toNat 0 < 0:=by
     have:=hhb9.trans hT
     rw [Bool.and_eq_true,decide_eq_true_eq,decide_eq_true_eq] at this
     exact this
    rw [hstep,if_pos hcnd]
    obtain ⟨tn,rfl⟩:=Int.eq_ofNat_of_zero_le hcnd.1
    have htn : tn < f'.place.length:=by rw [hok'.p]; omega
    refine wp_seq (seq_cut [(1,Vp M),(4,Vs P next.length next.length),(6,.slice (some ⟨bv,ov,none⟩) f'.rows.length cv),(7,Vi k),(8,Vi c),(9,Vi tn)] (· = w11.setCell ⟨P,0 + tn,none⟩ (Vi (f'.rows.length : Nat))) tab_ok hS ?_ (fun a w12 hS hw=>?_))
    ·repeat first|refine zP rfl ?_|refine zK rfl ?_
     refine zI rfl (rfl) ((by omega : tn < next.length)) ?_
     refine zS rfl rfl (own_cell hp htn hok'.p.symm) (own_frozen hp tn) ?_
     exact o_nil ⟨⟨rfl,rfl,rfl,rfl,rfl,rfl,trivial⟩,rfl⟩
    rw [Nat.zero_add] at hw
    have hp12:=own_stored hp tn (f'.rows.length : Nat)
    have hg12:=(hp.stored tn (Vi (f'.rows.length : Nat))).2
    have hr12:=hr.kept hg12 (.inr hne)
    have hK12:=below_of_grown hK hg12 (fun q hq=>by cases hq; omega)
    have hPb12:=Nat.le_trans hPb hg12.size
    rw [← hw] at hp12 hr12 hK12 hPb12
    clear hw hp hr hK hg12 hPb
    have hcap2:=hok'.cap
    refine seq_cutx (α:=Value) (fun v=>[(1,Vp M),(4,Vs P next.length next.length),(6,v),(7,Vi k),(8,Vi c)]) (fun v w'=>RowKit.Below wc.heap.size wc w' ∧ P ≤ w'.heap.size ∧ w'.ownsRow P 3 1 v (f'.rows ++ [(tn : Int)]).length (ints (f'.rows ++ [(tn : Int)])) ∧ w'.ownsRow P 3 1 (Vs P next.length next.length) next.length (ints (f'.place.set tn (f'.rows.length : Nat))) ∧ v.ownBlock ≠ some P) tab_ok hS ?_ (fun v a w13 hS h13=>⟨v,hS,h13⟩)
    repeat first|refine zP rfl ?_|refine zK rfl ?_
    refine o_step rfl rfl rfl ?_
    refine Exists.intro [(0,Vi ((tn : Int)))] (Exists.intro #[Vi ((tn : Int))] (And.intro (And.intro rfl rfl) (And.intro (by decide) (And.intro (fillI _ _ _) ?_))))
    have hy1:=below_alloc w12 (.cells #[Vi tn] 3)
    have ask : AppAsk (w12.alloc (.cells #[Vi tn] 3)) ⟨3,.int .i64,1,8,Vi 0⟩ (.slice (some ⟨bv,ov,none⟩) f'.rows.length cv) f'.rows.length (ints f'.rows) (Vs w12.heap.size 1 1) 1 [Vi tn] P:=
     ⟨hr12.alloc _,.inr ⟨_,0,_,rfl,cell_alloc_new rfl,trivial⟩,rfl,(by simp [Value.oneCell']),(by omega),(by show (f'.rows.length + 1) * 8 ≤ _; omega),Nat.le_trans hPb12 hy1.size⟩
    refine o_step rfl rfl rfl ?_
    refine Exists.intro _ (Exists.intro _ (Exists.intro _ (Exists.intro _ (Exists.intro _ (And.intro (ask) (And.intro (fun _ h=>h.symm) (And.intro (by decide) ?_)))))))
    rintro v' w13 hown hgr - hat
    obtain ⟨e1,e2,e3⟩:=app_next hown hgr hat (hp12.alloc _) hne
    have e4:=below_of_grown (below_trans hK12 hy1) hgr (fun q hq=>by have:=(hr12.lt q hq).1; omega)
    repeat first|refine zP rfl ?_|refine zK rfl ?_
    exact o_nil ⟨v',⟨rfl,rfl,rfl,rfl,rfl,trivial⟩,e4,Nat.le_trans (Nat.le_trans hPb12 hy1.size) hgr.size,e1,e2,e3⟩
   ·have hcnd : ¬ (0 ≤ t ∧ f'.place.getD t.toNat 0 < 0):=by
     rintro ⟨h0,h1⟩
     rw [decide_eq_true h0,decide_eq_true h1,hF] at hhb9
     cases hhb9
    rw [hstep,if_neg hcnd]
    exact wp_skip ⟨_,hS.sub ⟨rfl,rfl,rfl,rfl,rfl,trivial⟩,hK,hPb,hr,hp,hne⟩
  rintro a w11 ⟨v,hS,hK11,hPb11,hr11,hp11,hne11⟩
  refine block_normal ?_
  refine then_normal ?_
  refine seq_cut [(1,Vp M),(4,Vs P next.length next.length),(6,v),(7,Vi k),(8,Vi (c + 1 : Nat))] (· = w11) tab_ok hS ?_ (fun a w12 hS hw=>?_)
  ·have hL:=hm.L.2
   repeat first|refine zP rfl ?_|refine zK rfl ?_
   refine zN rfl (wrap_succ (by omega)) ?_
   repeat first|refine zP rfl ?_|refine zK rfl ?_
   exact o_nil ⟨⟨rfl,rfl,rfl,rfl,rfl,trivial⟩,rfl⟩
  subst hw
  exact ⟨L.toNat - (c + 1),_,by omega,⟨c + 1,v,_,by omega,rfl,rfl,hK11,hPb11,hr11,hp11,hne11,hok2,hrk2,hrow.symm⟩,hS⟩
 have hlt : k < next.length:=by have:=of_decide_eq_true hT; omega
 refine wp_skip ?_
 refine wp_seq (wp_block ?_)
 refine seq_cut [(1,Vp M),(4,Vs P next.length next.length),(5,Vi k)] (· = w3.setCell ⟨P,0 + k,none⟩ (Vi (-1))) tab_ok hS ?_ (fun a w4 hS hw=>?_)
 ·repeat first|refine zP rfl ?_|refine zK rfl ?_
  refine zI rfl (rfl) (hlt) ?_
  refine zS rfl rfl (own_cell hp (j:=k) (by simp; omega) (by simp; omega)) (own_frozen hp k) ?_
  exact o_nil ⟨⟨rfl,rfl,rfl,trivial⟩,rfl⟩
 have hp4:=own_stored hp k (-1)
 have hK4:=below_of_grown (w0:=wc) (hP ▸ hK) (hp.stored k (Vi (-1))).2 (fun q hq=>by cases hq; omega)
 rw [← hP] at hK4
 rw [Nat.zero_add] at hw
 rw [← hw] at hp4 hK4
 refine block_normal ?_
 refine then_normal ?_
 refine seq_cut [(1,Vp M),(4,Vs P next.length next.length),(5,Vi (k + 1 : Nat))] (· = w4) tab_ok hS ?_ (fun a w5 hS hw5=>?_)
 ·repeat first|refine zP rfl ?_|refine zK rfl ?_
  refine zN rfl (wrap_succ (by omega)) ?_
  repeat first|refine zP rfl ?_|refine zK rfl ?_
  exact o_nil ⟨⟨rfl,rfl,rfl,trivial⟩,rfl⟩
 subst hw5
 refine ⟨next.length - (k + 1),_,by omega,⟨k + 1,by omega,rfl,rfl,hK4,?_⟩,hS⟩
 have he : (List.replicate k (-1 : Int) ++ List.replicate (next.length - k) 0).set k (-1) = List.replicate (k + 1) (-1) ++ List.replicate (next.length - (k + 1)) 0:=by
  rw [List.set_append_right _ _ (by simp),List.length_replicate,Nat.sub_self,show next.length - k = (next.length - (k + 1)) + 1 by omega,List.replicate_succ,List.set_cons_zero,List.replicate_succ',List.append_assoc]
  rfl
 rw [he] at hp4
 exact hp4
end Go.Proofs.YthcoppfiahnpoaaGreat
namespace Go.Proofs.YthcoppfiahnpoaaGreat
open Go Sym
theorem live_any (L s : Int) (vn ve : Value) (next : List (List Int)) (fin : List Bool) (w : World) (hm : Ma w L s next fin vn ve) (hs : Shape L s next fin) (hn : next.length ≤ 100000000) :
  Calls Tryz.prog 98 #[.agg #[Vi L,Vi s,vn,ve]] w fun e w'=>∃ (g c : Nat) (lv : List Bool),e = .returned (Vs g next.length c) ∧ Rows w.heap.size w' [oB (Vs g next.length c) lv] ∧ RowKit.Below w.heap.size w w' ∧
   lv.length = next.length ∧ ∀ i : Nat,i < next.length → (lv.getD i false = true ↔ Live L.toNat next fin i):=by
 refine Sym.enter (args:=[.agg #[Vi L,Vi s,vn,ve]]) Tryz.func98 rfl rfl rfl (fun a0 hS0=>?_)
 obtain ⟨M,hM⟩ : ∃ M,M = w.heap.size:=⟨_,rfl⟩
 refine wp_seq (seq_cut [(1,Vp M)] (· = w.alloc (.cells #[Vi L,Vi s,vn,ve] 25)) tab_ok hS0 ?_ (fun a wc hS hw=>?_))
 ·subst hM
  refine zB rfl ?_
  repeat first|refine zP rfl ?_|refine zK rfl ?_
  exact o_nil ⟨⟨rfl,trivial⟩,rfl⟩
 have hB : RowKit.Below w.heap.size w wc:=by rw [hw]; exact below_alloc _ _
 have hx : Box wc M L s vn ve:=by rw [hw,hM]; exact Box.new _ _ _ _ _ _
 clear hw
 replace hm:=hm.keep hB
 have hfn:=hs.fin
 refine wp_seq (seq_cutx (α:=Nat × Nat) (fun x=>[(1,Vp M),(3,Vs x.1 next.length x.2)]) (fun x w'=>RowKit.Below wc.heap.size wc w' ∧ Rows wc.heap.size w' [oB (Vs x.1 next.length x.2) fin]) tab_ok hS ?_ (fun x a w1 hS h1=>?_))
 ·have hy:=below_alloc wc (.cells #[] 4)
  have hl:=own_lit wc wc.heap.size 4 (Nat.le_refl _)
  obtain ⟨ae,ce,rfl⟩:=hm.e.len
  repeat first|refine zP rfl ?_|refine zK rfl ?_
  refine o_step rfl rfl rfl ?_
  refine Exists.intro [] (Exists.intro #[] (And.intro (And.intro rfl rfl) (And.intro (by decide) (And.intro (by simp [Instr.fill,madeCells]) ?_))))
  have ask:=ask_of (e:=⟨4,.bool,1,1,.bool false⟩) hl (src_of (f:=Value.bool) ((hm.keep hy).e) hm.oke (fun _ _ h=>h)) rfl (fun _=>rfl) (by omega) (by simp only [Nat.mul_one]; omega) hy.size
  repeat first|refine zP rfl ?_|refine zK rfl ?_
  refine zL rfl ((hx.keep hy).c3) ?_
  refine o_step rfl rfl rfl ?_
  refine Exists.intro _ (Exists.intro _ (Exists.intro _ (Exists.intro _ (Exists.intro _ (And.intro (ask) (And.intro (fun _ h=>h.symm) (And.intro (by decide) ?_)))))))
  rintro v' w2 hown hgr hnil hat
  rw [Nat.zero_add,List.nil_append] at hown
  have hR : Rows wc.heap.size w2 [oB v' fin]:=(Rows.nil _ wc).new (o:=oB v' fin) (w':=w2) ⟨hgr.os,hgr.tape,hgr.output,Nat.le_trans hy.size hgr.size,fun q hq _=>(hgr.block q (Nat.lt_of_lt_of_le hq hy.size) (by simp only [Value.ownBlock,ne_eq,Option.some.injEq]; omega)).trans (hy.block q hq)⟩ hown (by
   rcases hat with h | h
   ·exact .inr ⟨_,h,Nat.le_refl _⟩
   ·exact .inr ⟨_,h,hy.size⟩)
  have hK:=below_of_grown hy hgr (fun q hq=>by simp only [Value.ownBlock,Option.some.injEq] at hq; omega)
  rcases hR.form (i:=0) rfl with ⟨e,_⟩ | ⟨g,c,e,_⟩
  ·have:=(hnil.1 e).1; cases this
  subst e
  rw [hfn] at hR ⊢
  repeat first|refine zP rfl ?_|refine zK rfl ?_
  exact o_nil ⟨(g,c),⟨rfl,rfl,trivial⟩,hK,hR⟩
 obtain ⟨O,cO⟩:=x
 obtain ⟨hK,hR⟩:=h1
 dsimp only at hS hR
 refine wp_seq (wp_seq (seq_cut [(1,Vp M),(3,Vs O next.length cO),(4,.bool true)] (· = w1) tab_ok hS ?_ (fun a w2 hS hw=>?_)))
 ·repeat first|refine zP rfl ?_|refine zK rfl ?_
  exact o_nil ⟨⟨rfl,rfl,rfl,trivial⟩,rfl⟩
 subst hw
 refine wp_block (loop0 hS (fun g E wr=>∃ (ag : Bool) (out : List Bool),g = 2 * falses out + (if ag = true then 1 else 0) ∧ E = [(1,Vp M),(3,Vs O next.length cO),(4,.bool ag)] ∧ RowKit.Below wc.heap.size wc wr ∧ Rows wc.heap.size wr [oB (Vs O next.length cO) out] ∧ LiveI L.toNat next fin out ∧ (ag = false → ∀ i,i < next.length → LiveRow L.toNat next out i))
  (2 * falses fin + 1) ⟨true,fin,rfl,rfl,hK,hR,live_start (s:=s) (by rw [Int.toNat_of_nonneg hs.L0]; exact hs),fun h=>by cases h⟩ ?_)
 clear hK hR hS
 rintro g0 E wr a1 ⟨ag,out0,rfl,rfl,hK,hR,hI,hdone⟩ hS
 refine wp_seq (wp_seq (seq_cut [(1,Vp M),(3,Vs O next.length cO),(4,.bool ag),(11,.bool ag)] (· = wr) tab_ok hS ?_ (fun a w3 hS hw=>?_)))
 ·repeat first|refine zP rfl ?_|refine zK rfl ?_
  exact o_nil ⟨⟨rfl,rfl,rfl,rfl,trivial⟩,rfl⟩
 subst hw
 refine cond hS rfl (fun hT=>?_) (fun hF=>?_)
 case refine_2=>
  refine wp_exit ?_
  repeat (first | refine then_exit ?_ | refine block_exit ?_ | refine block_other rfl ?_)
  refine wp_seq (seq_cut [(2,Vs O next.length cO)] (· = w3) tab_ok hS ?_ (fun a w4 hS hw=>?_))
  ·repeat first|refine zP rfl ?_|refine zK rfl ?_
   exact o_nil ⟨⟨rfl,trivial⟩,rfl⟩
  subst hw
  refine wp_ret ?_
  repeat (first | refine then_ret ?_ | refine block_ret ?_)
  exact ret1 hS rfl rfl ⟨O,cO,out0,rfl,hR.mono hB.size,below_trans hB hK,hI.len,live_iff (s:=s) (by rw [Int.toNat_of_nonneg hs.L0]; exact hs) hI (hdone hF)⟩
 subst hT
 clear hdone
 refine wp_skip ?_
 refine wp_block ?_
 refine wp_seq (seq_cut [(1,Vp M),(3,Vs O next.length cO),(4,.bool false)] (· = w3) tab_ok hS ?_ (fun a w4 hS hw=>?_))
 ·repeat first|refine zP rfl ?_|refine zK rfl ?_
  exact o_nil ⟨⟨rfl,rfl,rfl,trivial⟩,rfl⟩
 subst hw
 refine wp_seq (seq_cut [(1,Vp M),(3,Vs O next.length cO),(4,.bool false),(5,Vi 0)] (· = w4) tab_ok hS ?_ (fun a w5 hS hw=>?_))
 ·repeat first|refine zP rfl ?_|refine zK rfl ?_
  exact o_nil ⟨⟨rfl,rfl,rfl,rfl,trivial⟩,rfl⟩
 subst hw
 refine wp_block (loop0 hS (fun g E wr=>∃ (ag : Bool) (i : Nat) (out : List Bool),i ≤ next.length ∧ g = next.length - i ∧ E = [(1,Vp M),(3,Vs O next.length cO),(4,.bool ag),(5,Vi i)] ∧ RowKit.Below wc.heap.size wc wr ∧ Rows wc.heap.size wr [oB (Vs O next.length cO) out] ∧ LiveI L.toNat next fin out ∧
   (ag = false → out = out0 ∧ ∀ j,j < i → LiveRow L.toNat next out j) ∧ (ag = true → falses out < falses out0))
  next.length ⟨false,0,out0,Nat.zero_le _,rfl,rfl,hK,hR,hI,fun _=>⟨rfl,fun j hj=>by omega⟩,fun h=>by cases h⟩ ?_)
 clear hK hR hI hS
 rintro g1 E wr a1 ⟨ag,i,out,hi,rfl,rfl,hK,hR,hI,hstay,hless⟩ hS
 refine wp_seq (wp_seq (seq_cut [(1,Vp M),(3,Vs O next.length cO),(4,.bool ag),(5,Vi i),(15,.bool (decide ((i : Int) < next.length)))] (· = wr) tab_ok hS ?_ (fun a w6 hS hw=>?_)))
 ·repeat first|refine zP rfl ?_|refine zK rfl ?_
  refine zC rfl (rfl) ?_
  exact o_nil ⟨⟨rfl,rfl,rfl,rfl,rfl,trivial⟩,rfl⟩
 subst hw
 refine cond hS rfl (fun hT=>?_) (fun hF=>?_)
 case refine_2=>
  refine wp_exit ?_
  repeat (first | refine then_exit ?_ | refine block_exit ?_ | refine block_other rfl ?_)
  have hge : i = next.length:=by have:=of_decide_eq_false hF; omega
  subst hge
  refine block_normal ?_
  refine ⟨2 * falses out + (if ag = true then 1 else 0),_,?_,⟨ag,out,rfl,rfl,hK,hR,hI,fun h=>(hstay h).2⟩,hS.sub ⟨rfl,rfl,rfl,trivial⟩⟩
  cases ag with
  | false=>rw [(hstay rfl).1]; simp
  | true=>have:=hless rfl; simp; omega
 have hlt : i < next.length:=by have:=of_decide_eq_true hT; omega
 obtain ⟨hrl,hrv⟩:=hs.rows i hlt
 refine wp_skip ?_
 refine wp_seq (wp_block ?_)
 refine wp_seq (seq_cut [(1,Vp M),(3,Vs O next.length cO),(4,.bool ag),(5,Vi i),(6,Vi 0)] (· = w6) tab_ok hS ?_ (fun a w7 hS hw=>?_))
 ·repeat first|refine zP rfl ?_|refine zK rfl ?_
  exact o_nil ⟨⟨rfl,rfl,rfl,rfl,rfl,trivial⟩,rfl⟩
 subst hw
 refine wp_block (loop0 hS (fun g E wr=>∃ (ag : Bool) (k : Nat) (out : List Bool),(k : Int) ≤ L ∧ g = L.toNat - k ∧ E = [(1,Vp M),(3,Vs O next.length cO),(4,.bool ag),(5,Vi i),(6,Vi k)] ∧ RowKit.Below wc.heap.size wc wr ∧ Rows wc.heap.size wr [oB (Vs O next.length cO) out] ∧ LiveI L.toNat next fin out ∧
   (ag = false → out = out0 ∧ (∀ j,j < i → LiveRow L.toNat next out j) ∧ ∀ c,c < k → ∀ t : Nat,tgtM next i c = t → out.getD t false = false) ∧ (ag = true → falses out < falses out0) ∧ (k = 0 ∨ out.getD i false = true ∨ ∀ c,c < k → ∀ t : Nat,tgtM next i c = t → out.getD t false = false))
  L.toNat ⟨ag,0,out,hs.L0,rfl,rfl,hK,hR,hI,fun h=>⟨(hstay h).1,(hstay h).2,fun c hc=>by omega⟩,hless,.inl rfl⟩ ?_)
 clear hK hR hI hS hstay hless
 rintro g2 E wr a1 ⟨ag,k,out,hk,rfl,rfl,hK,hR,hI,hstay,hless,hrow⟩ hS
 have hol:=hI.len
 have hio : i < out.length:=by omega
 obtain ⟨b28,hb28⟩ : ∃ b,(decide ((k : Int) < L) && !out.getD i false) = b:=⟨_,rfl⟩
 refine wp_seq (wp_seq (seq_cut [(1,Vp M),(3,Vs O next.length cO),(4,.bool ag),(5,Vi i),(6,Vi k),(28,.bool b28)] (· = wr) tab_ok hS ?_ (fun a w8 hS hw=>?_)))
 ·repeat first|refine zP rfl ?_|refine zK rfl ?_
  refine zL rfl ((hx.keep hK).c0) ?_
  cases e1 : decide ((k : Int) < L)
  case false=>
   rw [e1,Bool.false_and] at hb28; subst hb28
   refine zC rfl (e1) ?_
   repeat first|refine zP rfl ?_|refine zK rfl ?_
   exact o_nil ⟨⟨rfl,rfl,rfl,rfl,rfl,rfl,trivial⟩,rfl⟩
  case true=>
   rw [e1,Bool.true_and,List.getD_eq_getElem?_getD,List.getElem?_eq_getElem hio] at hb28; subst hb28
   refine zC rfl (e1) ?_
   repeat first|refine zP rfl ?_|refine zK rfl ?_
   refine zI rfl (rfl) (hlt) ?_
   refine zL rfl (hR.cellB (i:=0) rfl hio) ?_
   repeat first|refine zP rfl ?_|refine zK rfl ?_
   exact o_nil ⟨⟨rfl,rfl,rfl,rfl,rfl,rfl,trivial⟩,rfl⟩
 subst hw
 refine cond hS rfl (fun hT=>?_) (fun hF=>?_)
 case refine_2=>
  refine wp_exit ?_
  repeat (first | refine then_exit ?_ | refine block_exit ?_ | refine block_other rfl ?_)
  have hend : LiveRow L.toNat next out i:=by
   rw [hF,Bool.and_eq_false_iff] at hb28
   rcases hb28 with h | h
   ·have hge:=of_decide_eq_false h
    rcases hrow with h0 | h0 | h0
    ·refine .inr fun c hc=>by omega
    ·exact .inl h0
    ·exact .inr fun c hc=>h0 c (by omega)
   ·exact .inl (by simpa using h)
  refine block_normal ?_
  refine then_normal ?_
  refine seq_cut [(1,Vp M),(3,Vs O next.length cO),(4,.bool ag),(5,Vi (i + 1 : Nat))] (· = w8) tab_ok hS ?_ (fun a w9 hS hw=>?_)
  ·repeat first|refine zP rfl ?_|refine zK rfl ?_
   refine zN rfl (wrap_succ (by omega)) ?_
   repeat first|refine zP rfl ?_|refine zK rfl ?_
   exact o_nil ⟨⟨rfl,rfl,rfl,rfl,trivial⟩,rfl⟩
  subst hw
  refine ⟨next.length - (i + 1),_,by omega,⟨ag,i + 1,out,hlt,rfl,rfl,hK,hR,hI,fun h=>⟨(hstay h).1,fun j hj=>?_⟩,hless⟩,hS⟩
  rcases Nat.lt_or_ge j i with h1 | h1
  ·exact (hstay h).2.1 j h1
  ·obtain rfl : j = i:=by omega
   exact hend
 rw [hT,Bool.and_eq_true] at hb28
 have hkL : (k : Int) < L:=of_decide_eq_true hb28.1
 have hoi : out.getD i false = false:=by simpa using hb28.2
 have hkr : k < next[i].length:=by omega
 obtain ⟨t,ht⟩ : ∃ t,next[i][k] = t:=⟨_,rfl⟩
 have htr:=hrv k hkr
 rw [ht] at htr
 have htg : tgtM next i k = t:=by rw [tgt_get hlt hkr,ht]
 refine wp_skip ?_
 refine wp_seq (wp_block ?_)
 obtain ⟨b52,hb52⟩ : ∃ b,(decide (0 ≤ t) && out.getD t.toNat false) = b:=⟨_,rfl⟩
 refine wp_seq (seq_cut [(1,Vp M),(3,Vs O next.length cO),(4,.bool ag),(5,Vi i),(6,Vi k),(52,.bool b52)] (· = w8) tab_ok hS ?_ (fun a w9 hS hw=>?_))
 ·obtain ⟨bn,on,cn,hvn,ar,cr,hc1,hc2⟩:=(hm.keep hK).cell hlt
  obtain ⟨br,orr,rfl,hc3⟩:=hc2 k hkr
  subst hvn
  rw [ht] at hc3
  repeat first|refine zP rfl ?_|refine zK rfl ?_
  refine zL rfl ((hx.keep hK).c2) ?_
  repeat first|refine zP rfl ?_|refine zK rfl ?_
  refine zI rfl (rfl) (hlt) ?_
  refine zL rfl (hc1) ?_
  repeat first|refine zP rfl ?_|refine zK rfl ?_
  refine zI rfl (rfl) (hkr) ?_
  refine zL rfl (hc3) ?_
  cases e1 : decide (0 ≤ t)
  case false=>
   rw [e1,Bool.false_and] at hb52; subst hb52
   refine zC rfl (e1) ?_
   repeat first|refine zP rfl ?_|refine zK rfl ?_
   exact o_nil ⟨⟨rfl,rfl,rfl,rfl,rfl,rfl,trivial⟩,rfl⟩
  case true=>
   obtain ⟨tn,rfl⟩:=Int.eq_ofNat_of_zero_le (of_decide_eq_true e1)
   have htn : tn < out.length:=by omega
   rw [e1,Bool.true_and,Int.toNat_natCast,List.getD_eq_getElem?_getD,List.getElem?_eq_getElem htn] at hb52
   have hb52 : out[tn] = b52:=hb52
   subst hb52
   refine zC rfl (e1) ?_
   repeat first|refine zP rfl ?_|refine zK rfl ?_
   refine zL rfl ((hx.keep hK).c2) ?_
   repeat first|refine zP rfl ?_|refine zK rfl ?_
   refine zI rfl (rfl) (hlt) ?_
   refine zL rfl (hc1) ?_
   repeat first|refine zP rfl ?_|refine zK rfl ?_
   refine zI rfl (rfl) (hkr) ?_
   refine zL rfl (hc3) ?_
   refine zI rfl (rfl) ((by omega : tn < next.length)) ?_
   refine zL rfl (hR.cellB (i:=0) rfl htn) ?_
   repeat first|refine zP rfl ?_|refine zK rfl ?_
   exact o_nil ⟨⟨rfl,rfl,rfl,rfl,rfl,rfl,trivial⟩,rfl⟩
 subst hw
 refine cut (F:=fun a' w'=>∃ (ag' : Bool) (out' : List Bool),St Tryz.f98.ntmps a' [(1,Vp M),(3,Vs O next.length cO),(4,.bool ag'),(5,Vi i),(6,Vi k)] ∧ RowKit.Below wc.heap.size wc w' ∧ Rows wc.heap.size w' [oB (Vs O next.length cO) out'] ∧ LiveI L.toNat next fin out' ∧
   (ag' = false → out' = out0 ∧ (∀ j,j < i → LiveRow L.toNat next out' j) ∧ ∀ c,c < k + 1 → ∀ t : Nat,tgtM next i c = t → out'.getD t false = false) ∧ (ag' = true → falses out' < falses out0) ∧ (out'.getD i false = true ∨ ∀ c,c < k + 1 → ∀ t : Nat,tgtM next i c = t → out'.getD t false = false)) ?_ ?_
 ·refine cond hS rfl (fun hT=>?_) (fun hF=>?_)
  ·rw [hT,Bool.and_eq_true] at hb52
   obtain ⟨tn,rfl⟩:=Int.eq_ofNat_of_zero_le (of_decide_eq_true hb52.1)
   have htn : tn < next.length:=by omega
   refine wp_seq (seq_cut [(1,Vp M),(3,Vs O next.length cO),(4,.bool ag),(5,Vi i),(6,Vi k)] (· = w9.setCell ⟨O,0 + i,none⟩ (.bool true)) tab_ok hS ?_ (fun a w10 hS hw=>?_))
   ·repeat first|refine zP rfl ?_|refine zK rfl ?_
    refine zI rfl (rfl) (hlt) ?_
    refine zS rfl rfl (hR.cellB (i:=0) rfl hio) (hR.freeI (i:=0) rfl i) ?_
    exact o_nil ⟨⟨rfl,rfl,rfl,rfl,rfl,trivial⟩,rfl⟩
   obtain ⟨hR10,hg10⟩:=hR.storeB (i:=0) rfl i true
   have hK10:=below_of_grown hK hg10 (fun q hq=>by cases hq; exact (hR.lt (i:=0) rfl rfl).1)
   rw [← hw] at hR10 hK10
   clear hw hg10
   refine seq_cut [(1,Vp M),(3,Vs O next.length cO),(4,.bool true),(5,Vi i),(6,Vi k)] (· = w10) tab_ok hS ?_ (fun a w11 hS hw=>?_)
   ·repeat first|refine zP rfl ?_|refine zK rfl ?_
    exact o_nil ⟨⟨rfl,rfl,rfl,rfl,rfl,trivial⟩,rfl⟩
   subst hw
   have hf:=falses_set hio hoi
   have hset : (out.set i true).getD i false = true:=by rw [getD_setB,if_pos ⟨rfl,hio⟩]
   refine ⟨true,out.set i true,hS,hK10,hR10,hI.set (c:=k) (by omega) htg htn (by simpa using hb52.2),(fun h=>by cases h),(fun _=>?_),.inl hset⟩
   cases ag with
   | false=>rw [← (hstay rfl).1]; omega
   | true=>have:=hless rfl; omega
  ·have hno : ∀ c,c < k + 1 → (∀ c,c < k → ∀ t : Nat,tgtM next i c = t → out.getD t false = false) → ∀ t : Nat,tgtM next i c = t → out.getD t false = false:=fun c hc hold q hq=>by
    rcases Nat.lt_or_ge c k with h1 | h1
    ·exact hold c h1 q hq
    ·obtain rfl : c = k:=by omega
     rw [htg] at hq
     subst hq
     rw [hF,decide_eq_true (by omega),Bool.true_and] at hb52
     simpa using hb52
   refine wp_skip ⟨ag,out,hS.sub ⟨rfl,rfl,rfl,rfl,rfl,trivial⟩,hK,hR,hI,fun h=>⟨(hstay h).1,(hstay h).2.1,fun c hc=>hno c hc (hstay h).2.2⟩,hless,?_⟩
   rcases hrow with h0 | h0 | h0
   ·exact .inr fun c hc=>hno c hc fun c' hc'=>by omega
   ·exact .inl h0
   ·exact .inr fun c hc=>hno c hc h0
 rintro a w10 ⟨ag',out',hS,hK',hR',hI',hstay',hless',hrow'⟩
 refine block_normal ?_
 refine then_normal ?_
 refine seq_cut [(1,Vp M),(3,Vs O next.length cO),(4,.bool ag'),(5,Vi i),(6,Vi (k + 1 : Nat))] (· = w10) tab_ok hS ?_ (fun a w11 hS hw=>?_)
 ·have hL:=hm.L.2
  repeat first|refine zP rfl ?_|refine zK rfl ?_
  refine zN rfl (wrap_succ (by omega)) ?_
  repeat first|refine zP rfl ?_|refine zK rfl ?_
  exact o_nil ⟨⟨rfl,rfl,rfl,rfl,rfl,trivial⟩,rfl⟩
 subst hw
 exact ⟨L.toNat - (k + 1),_,by omega,⟨ag',k + 1,out',by omega,rfl,rfl,hK',hR',hI',hstay',hless',.inr hrow'⟩,hS⟩
end Go.Proofs.YthcoppfiahnpoaaGreat
namespace Go.Proofs.YthcoppfiahnpoaaGreat
open Go Sym
theorem en_live : enters Tryz.prog 98 = true:=by kernel_rfl
theorem en_alike : enters Tryz.prog 99 = true:=by kernel_rfl
def clsStart (fin lv : List Bool) (i : Nat) : Int:=if lv.getD i false = true then (if fin.getD i false = true then 1 else 0) else -1
structure FillI (n i : Nat) (f : Nat → Int) (l : List Int) : Prop where
 len : l.length = n
 val : ∀ j,j < i → l.getD j 0 = f j
theorem FillI.set {n i : Nat} {f : Nat → Int} {l : List Int} (h : FillI n i f l) {x : Int} (hi : i < n) (hx : x = f i) : FillI n (i + 1) f (l.set i x):=
 ⟨by simp [h.len],fun j hj=>by
  rw [getD_set]
  split
  ·rename_i e; rw [hx,e.1]
  ·rename_i e
   refine h.val j ?_
   have : ¬ i = j:=fun e2=>e ⟨e2,by rw [h.len]; exact hi⟩
   omega⟩
theorem classes_any (L s : Int) (vn ve : Value) (next : List (List Int)) (fin : List Bool) (w : World) (hm : Ma w L s next fin vn ve) (hs : Shape L s next fin) (hn : next.length ≤ 100000000) :
  Calls Tryz.prog 74 #[.agg #[Vi L,Vi s,vn,ve]] w fun e w'=>∃ (g c : Nat) (cls : List Int) (m : Nat),e = .returned (Vs g next.length c) ∧ Rows w.heap.size w' [oI (Vs g next.length c) cls] ∧ RowKit.Below w.heap.size w w' ∧ Cls L.toNat next fin cls m:=by
 refine Sym.enter (args:=[.agg #[Vi L,Vi s,vn,ve]]) Tryz.func74 rfl rfl rfl (fun a0 hS0=>?_)
 have hs' : Shape (L.toNat : Int) s next fin:=by rw [Int.toNat_of_nonneg hs.L0]; exact hs
 obtain ⟨M,hM⟩ : ∃ M,M = w.heap.size:=⟨_,rfl⟩
 refine wp_seq (seq_cut [(1,Vp M)] (· = w.alloc (.cells #[Vi L,Vi s,vn,ve] 25)) tab_ok hS0 ?_ (fun a wc hS hw=>?_))
 ·subst hM
  refine zB rfl ?_
  repeat first|refine zP rfl ?_|refine zK rfl ?_
  exact o_nil ⟨⟨rfl,trivial⟩,rfl⟩
 have hB : RowKit.Below w.heap.size w wc:=by rw [hw]; exact below_alloc _ _
 have hx : Box wc M L s vn ve:=by rw [hw,hM]; exact Box.new _ _ _ _ _ _
 clear hw
 replace hm:=hm.keep hB
 have hfn:=hs.fin
 have hfn':=hs.fin
 refine wp_seq (seq_cutx (α:=Nat × Nat × List Bool) (fun x=>[(1,Vp M),(3,Vs x.1 next.length x.2.1)]) (fun x w'=>Rows wc.heap.size w' [oB (Vs x.1 next.length x.2.1) x.2.2] ∧ RowKit.Below wc.heap.size wc w' ∧ x.2.2.length = next.length ∧ ∀ i : Nat,i < next.length → (x.2.2.getD i false = true ↔ Live L.toNat next fin i)) tab_ok hS ?_ (fun x a w1 hS h1=>?_))
 ·refine zA ([Vi L,Vi s,vn,ve]) rfl rfl (hx.cells) ?_
  refine zF rfl (en_live) (live_any L s vn ve next fin _ hm hs hn) ?_
  rintro e w1 ⟨g,c,lv,rfl,h1,h2,h3,h4⟩
  refine ⟨_,rfl,?_⟩
  repeat first|refine zP rfl ?_|refine zK rfl ?_
  exact o_nil ⟨(g,c,lv),⟨rfl,rfl,trivial⟩,h1,h2,h3,h4⟩
 obtain ⟨G,cG,lv⟩:=x
 obtain ⟨hR,hK,hlvl,hlv⟩:=h1
 dsimp only at hS hR hlvl hlv
 obtain ⟨O,hO⟩ : ∃ O,O = w1.heap.size:=⟨_,rfl⟩
 refine wp_seq (seq_cut [(1,Vp M),(3,Vs G next.length cG),(4,Vs O next.length next.length)] (· = w1.alloc (.cells (madeCells #[Vi 0] next.length) 3)) tab_ok hS ?_ (fun a w2 hS hw=>?_))
 ·obtain ⟨an,cn,hvn⟩:=hm.n.len
  subst hvn
  subst hO
  repeat first|refine zP rfl ?_|refine zK rfl ?_
  refine zL rfl ((hx.keep hK).c2) ?_
  repeat first|refine zP rfl ?_|refine zK rfl ?_
  refine zM (next.length) rfl rfl rfl rfl rfl ((by show 8 * _ ≤ _; omega)) ((by omega)) ?_
  repeat first|refine zP rfl ?_|refine zK rfl ?_
  exact o_nil ⟨⟨rfl,rfl,rfl,trivial⟩,rfl⟩
 have hR2:=hR.makeI hK.size (n:=next.length) (by omega)
 have hK2:=below_trans hK (below_alloc w1 (.cells (madeCells #[Vi 0] next.length) 3))
 rw [← hw,← hO] at hR2
 rw [← hw] at hK2
 clear hw hR hK hO
 refine wp_seq (wp_seq (seq_cut [(1,Vp M),(3,Vs G next.length cG),(4,Vs O next.length next.length),(5,Vi 0)] (· = w2) tab_ok hS ?_ (fun a w3 hS hw=>?_)))
 ·repeat first|refine zP rfl ?_|refine zK rfl ?_
  exact o_nil ⟨⟨rfl,rfl,rfl,rfl,trivial⟩,rfl⟩
 subst hw
 refine wp_block (loop0 hS (fun g E wr=>∃ (i : Nat) (out : List Int),i ≤ next.length ∧ g = next.length - i ∧ E = [(1,Vp M),(3,Vs G next.length cG),(4,Vs O next.length next.length),(5,Vi i)] ∧ RowKit.Below wc.heap.size wc wr ∧ Rows wc.heap.size wr [oI (Vs O next.length next.length) out,oB (Vs G next.length cG) lv] ∧ FillI next.length i (clsStart fin lv) out)
  next.length ⟨0,_,Nat.zero_le _,rfl,rfl,hK2,hR2,⟨by simp,fun j hj=>by omega⟩⟩ ?_)
 clear hK2 hR2 hS
 rintro g0 E wr a1 ⟨i,out,hi,rfl,rfl,hK,hR,hI⟩ hS
 have hol:=hI.len
 refine wp_seq (wp_seq (seq_cut [(1,Vp M),(3,Vs G next.length cG),(4,Vs O next.length next.length),(5,Vi i),(20,.bool (decide ((i : Int) < next.length)))] (· = wr) tab_ok hS ?_ (fun a w3 hS hw=>?_)))
 ·repeat first|refine zP rfl ?_|refine zK rfl ?_
  refine zC rfl (rfl) ?_
  exact o_nil ⟨⟨rfl,rfl,rfl,rfl,rfl,trivial⟩,rfl⟩
 subst hw
 refine cond hS rfl (fun hT=>?_) (fun hF=>?_)
 case refine_1=>
  have hlt : i < next.length:=by have:=of_decide_eq_true hT; omega
  have hio : i < out.length:=by omega
  refine wp_skip ?_
  refine wp_seq (wp_block ?_)
  refine wp_seq (seq_cut [(1,Vp M),(3,Vs G next.length cG),(4,Vs O next.length next.length),(5,Vi i)] (· = w3.setCell ⟨O,0 + i,none⟩ (Vi (-1))) tab_ok hS ?_ (fun a w4 hS hw=>?_))
  ·repeat first|refine zP rfl ?_|refine zK rfl ?_
   refine zI rfl (rfl) (hlt) ?_
   refine zS rfl rfl (hR.cellI (i:=0) rfl hio) (hR.freeI (i:=0) rfl i) ?_
   exact o_nil ⟨⟨rfl,rfl,rfl,rfl,trivial⟩,rfl⟩
  obtain ⟨hR4,hg4⟩:=hR.storeI (i:=0) rfl i (-1)
  have hK4:=below_of_grown hK hg4 (fun q hq=>by cases hq; exact (hR.lt (i:=0) rfl rfl).1)
  rw [← hw] at hR4 hK4
  clear hw hg4 hR hK
  dsimp only [List.set_cons_zero] at hR4
  refine wp_seq (seq_cut [(1,Vp M),(3,Vs G next.length cG),(4,Vs O next.length next.length),(5,Vi i),(29,.bool lv[i])] (· = w4) tab_ok hS ?_ (fun a w5 hS hw=>?_))
  ·repeat first|refine zP rfl ?_|refine zK rfl ?_
   refine zI rfl (rfl) (hlt) ?_
   refine zL rfl (hR4.cellB (i:=1) rfl (show i < lv.length by omega)) ?_
   exact o_nil ⟨⟨rfl,rfl,rfl,rfl,rfl,trivial⟩,rfl⟩
  subst hw
  have hlvi : lv.getD i false = lv[i]:=by simp [List.getD_eq_getElem?_getD,hlvl,hlt]
  have hfi : fin.getD i false = fin[i]:=by simp [List.getD_eq_getElem?_getD,hfn,hlt]
  refine cut (F:=fun a' w'=>∃ out' : List Int,St Tryz.f74.ntmps a' [(1,Vp M),(3,Vs G next.length cG),(4,Vs O next.length next.length),(5,Vi i)] ∧ RowKit.Below wc.heap.size wc w' ∧ Rows wc.heap.size w' [oI (Vs O next.length next.length) out',oB (Vs G next.length cG) lv] ∧ FillI next.length (i + 1) (clsStart fin lv) out') ?_ ?_
  ·refine cond hS rfl (fun hT=>?_) (fun hF=>?_)
   ·refine wp_seq (seq_cut [(1,Vp M),(3,Vs G next.length cG),(4,Vs O next.length next.length),(5,Vi i)] (· = w5.setCell ⟨O,0 + i,none⟩ (Vi 0)) tab_ok hS ?_ (fun a w6 hS hw=>?_))
    ·repeat first|refine zP rfl ?_|refine zK rfl ?_
     refine zI rfl (rfl) (hlt) ?_
     refine zS rfl rfl (hR4.cellI (i:=0) rfl (by simpa using hio)) (hR4.freeI (i:=0) rfl i) ?_
     exact o_nil ⟨⟨rfl,rfl,rfl,rfl,trivial⟩,rfl⟩
    obtain ⟨hR6,hg6⟩:=hR4.storeI (i:=0) rfl i 0
    have hK6:=below_of_grown hK4 hg6 (fun q hq=>by cases hq; exact (hR4.lt (i:=0) rfl rfl).1)
    rw [← hw] at hR6 hK6
    clear hw hg6 hR4 hK4
    dsimp only [List.set_cons_zero] at hR6
    rw [List.set_set] at hR6
    refine wp_seq (seq_cut [(1,Vp M),(3,Vs G next.length cG),(4,Vs O next.length next.length),(5,Vi i),(37,.bool fin[i])] (· = w6) tab_ok hS ?_ (fun a w7 hS hw=>?_))
    ·obtain ⟨be,oe,ce,hve,hc⟩:=(hm.keep hK6).end (i:=i) (by omega)
     subst hve
     repeat first|refine zP rfl ?_|refine zK rfl ?_
     refine zL rfl ((hx.keep hK6).c3) ?_
     repeat first|refine zP rfl ?_|refine zK rfl ?_
     refine zI rfl (rfl) ((by omega : i < fin.length)) ?_
     refine zL rfl (hc) ?_
     exact o_nil ⟨⟨rfl,rfl,rfl,rfl,rfl,trivial⟩,rfl⟩
    subst hw
    refine cond hS rfl (fun hT2=>?_) (fun hF2=>?_)
    ·refine seq_cut [(1,Vp M),(3,Vs G next.length cG),(4,Vs O next.length next.length),(5,Vi i)] (· = w7.setCell ⟨O,0 + i,none⟩ (Vi 1)) tab_ok hS ?_ (fun a w8 hS hw=>?_)
     ·repeat first|refine zP rfl ?_|refine zK rfl ?_
      refine zI rfl (rfl) (hlt) ?_
      refine zS rfl rfl (hR6.cellI (i:=0) rfl (by simpa using hio)) (hR6.freeI (i:=0) rfl i) ?_
      exact o_nil ⟨⟨rfl,rfl,rfl,rfl,trivial⟩,rfl⟩
     obtain ⟨hR8,hg8⟩:=hR6.storeI (i:=0) rfl i 1
     have hK8:=below_of_grown hK6 hg8 (fun q hq=>by cases hq; exact (hR6.lt (i:=0) rfl rfl).1)
     rw [← hw] at hR8 hK8
     dsimp only [List.set_cons_zero] at hR8
     rw [List.set_set] at hR8
     exact ⟨_,hS,hK8,hR8,hI.set hlt (by rw [clsStart,hlvi,hT,hfi,hT2]; rfl)⟩
    ·exact wp_skip ⟨_,hS.sub ⟨rfl,rfl,rfl,rfl,trivial⟩,hK6,hR6,hI.set hlt (by rw [clsStart,hlvi,hT,hfi,hF2]; rfl)⟩
   ·exact wp_skip ⟨_,hS.sub ⟨rfl,rfl,rfl,rfl,trivial⟩,hK4,hR4,hI.set hlt (by rw [clsStart,hlvi,hF]; rfl)⟩
  rintro a w6 ⟨out',hS,hK',hR',hI'⟩
  refine block_normal ?_
  refine then_normal ?_
  refine seq_cut [(1,Vp M),(3,Vs G next.length cG),(4,Vs O next.length next.length),(5,Vi (i + 1 : Nat))] (· = w6) tab_ok hS ?_ (fun a w9 hS hw=>?_)
  ·repeat first|refine zP rfl ?_|refine zK rfl ?_
   refine zN rfl (wrap_succ (by omega)) ?_
   repeat first|refine zP rfl ?_|refine zK rfl ?_
   exact o_nil ⟨⟨rfl,rfl,rfl,rfl,trivial⟩,rfl⟩
  subst hw
  exact ⟨next.length - (i + 1),_,by omega,⟨i + 1,out',hlt,rfl,rfl,hK',hR',hI'⟩,hS⟩
 refine wp_exit ?_
 repeat (first | refine then_exit ?_ | refine block_exit ?_ | refine block_other rfl ?_)
 obtain rfl : i = next.length:=by have:=of_decide_eq_false hF; omega
 have href : Ref L.toNat next fin out 0:=ref_start hlv hol (fun i hi=>hI.val i hi)
 have hrg : ∀ x ∈ out,-1 ≤ x ∧ x ≤ next.length:=fun x hx=>by
  obtain ⟨j,hj,rfl⟩:=List.mem_iff_getElem.1 hx
  have:=hI.val j (by omega)
  rw [getD_lt hj,clsStart] at this
  rw [this]
  split
  ·split <;> omega
  ·omega
 have hR3:=hR.erase 1
 dsimp only [List.eraseIdx_cons_succ,List.eraseIdx_cons_zero] at hR3
 refine wp_seq (seq_cut [(1,Vp M),(4,Vs O next.length next.length),(6,Vi 0)] (· = w3) tab_ok hS ?_ (fun a w4 hS hw=>?_))
 ·repeat first|refine zP rfl ?_|refine zK rfl ?_
  exact o_nil ⟨⟨rfl,rfl,rfl,trivial⟩,rfl⟩
 subst hw
 refine wp_block (loop0 hS (fun g E wr=>∃ (O cO count : Nat) (out : List Int),count ≤ next.length ∧ g = next.length + 1 - count ∧ E = [(1,Vp M),(4,Vs O next.length cO),(6,Vi count)] ∧ RowKit.Below wc.heap.size wc wr ∧ Rows wc.heap.size wr [oI (Vs O next.length cO) out] ∧ Ref L.toNat next fin out count ∧ (∀ x ∈ out,-1 ≤ x ∧ x ≤ next.length) ∧ (∀ i,i < next.length → out.getD i 0 < count ∨ count = 0))
  (next.length + 1) ⟨O,next.length,0,out,Nat.zero_le _,rfl,rfl,hK,hR3,href,hrg,fun _ _=>.inr rfl⟩ ?_)
 clear hR hR3 hK hS hI hol hF href hrg hlv hlvl
 rintro g0 E wr a1 ⟨O,cO,count,out,hcn,rfl,rfl,hK,hR,href,hrg,htop⟩ hS
 have hol:=href.len
 refine wp_block ?_
 obtain ⟨X,hX⟩ : ∃ X,X = wr.heap.size:=⟨_,rfl⟩
 refine wp_seq (seq_cut [(1,Vp M),(4,Vs O next.length cO),(6,Vi count),(7,Vs X next.length next.length)] (· = wr.alloc (.cells (madeCells #[Vi 0] next.length) 3)) tab_ok hS ?_ (fun a w4 hS hw=>?_))
 ·subst hX
  repeat first|refine zP rfl ?_|refine zK rfl ?_
  refine zM (next.length) rfl rfl rfl rfl rfl ((by show 8 * _ ≤ _; omega)) ((by omega)) ?_
  repeat first|refine zP rfl ?_|refine zK rfl ?_
  exact o_nil ⟨⟨rfl,rfl,rfl,rfl,trivial⟩,rfl⟩
 have hR4:=hR.makeI hK.size (n:=next.length) (by omega)
 have hK4:=below_trans hK (below_alloc wr (.cells (madeCells #[Vi 0] next.length) 3))
 rw [← hw,← hX] at hR4
 rw [← hw] at hK4
 clear hw hR hK hX
 obtain ⟨nx0,hnx0⟩ : ∃ l,List.replicate next.length (0 : Int) = l:=⟨_,rfl⟩
 have hnl : nx0.length = next.length:=by rw [← hnx0]; simp
 have hnr : ∀ x ∈ nx0,-1 ≤ x ∧ x ≤ next.length:=fun x hx=>by
  rw [← hnx0] at hx
  rw [(List.mem_replicate.1 hx).2]; omega
 rw [hnx0] at hR4
 clear hnx0
 refine wp_seq (seq_cutx (α:=Value) (fun v=>[(1,Vp M),(4,Vs O next.length cO),(6,Vi count),(7,Vs X next.length next.length),(8,v)]) (fun v w'=>RowKit.Below wc.heap.size wc w' ∧ Rows wc.heap.size w' [oI v [],oI (Vs X next.length next.length) nx0,oI (Vs O next.length cO) out]) tab_ok hS ?_ (fun vf a w5 hS h5=>?_))
 ·repeat first|refine zP rfl ?_|refine zK rfl ?_
  refine o_step rfl rfl rfl ?_
  refine Exists.intro [] (Exists.intro #[] (And.intro (And.intro rfl rfl) (And.intro (by decide) (And.intro (by simp [Instr.fill,madeCells]) ?_))))
  repeat first|refine zP rfl ?_|refine zK rfl ?_
  exact o_nil ⟨_,⟨rfl,rfl,rfl,rfl,rfl,trivial⟩,below_trans hK4 (below_alloc _ _),hR4.litI hK4.size⟩
 clear hK4 hR4
 obtain ⟨hK,hR⟩:=h5
 refine wp_seq (wp_seq (seq_cut [(1,Vp M),(4,Vs O next.length cO),(6,Vi count),(7,Vs X next.length next.length),(8,vf),(9,Vi 0)] (· = w5) tab_ok hS ?_ (fun a w6 hS hw=>?_)))
 ·repeat first|refine zP rfl ?_|refine zK rfl ?_
  exact o_nil ⟨⟨rfl,rfl,rfl,rfl,rfl,rfl,trivial⟩,rfl⟩
 subst hw
 refine wp_block (loop0 hS (fun g E wr=>∃ (i : Nat) (vf : Value) (nx fs : List Int),i ≤ next.length ∧ g = next.length - i ∧ E = [(1,Vp M),(4,Vs O next.length cO),(6,Vi count),(7,Vs X next.length next.length),(8,vf),(9,Vi i)] ∧ RowKit.Below wc.heap.size wc wr ∧ Rows wc.heap.size wr [oI vf fs,oI (Vs X next.length next.length) nx,oI (Vs O next.length cO) out] ∧ PassI L.toNat next out i nx fs ∧ (∀ x ∈ nx,-1 ≤ x ∧ x ≤ next.length))
  next.length ⟨0,vf,nx0,[],Nat.zero_le _,rfl,rfl,hK,hR,PassI.start hnl,hnr⟩ ?_)
 clear hK hR hS hnl hnr
 rintro g1 E wr a1 ⟨i,vf,nx,fs,hi,rfl,rfl,hK,hR,hP,hnr⟩ hS
 have hnl:=hP.len
 have hcap:=hP.cap hi
 obtain ⟨b48,hb48⟩ : ∃ b,decide ((i : Int) < next.length) = b:=⟨_,rfl⟩
 refine wp_seq (wp_seq (seq_cut [(1,Vp M),(4,Vs O next.length cO),(6,Vi count),(7,Vs X next.length next.length),(8,vf),(9,Vi i),(48,.bool b48)] (· = wr) tab_ok hS ?_ (fun a w6 hS hw=>?_)))
 ·repeat first|refine zP rfl ?_|refine zK rfl ?_
  refine zC rfl (hb48) ?_
  exact o_nil ⟨⟨rfl,rfl,rfl,rfl,rfl,rfl,rfl,trivial⟩,rfl⟩
 subst hw
 have hfsI : ∀ x ∈ fs,I64 x:=fun x hx=>by
  obtain ⟨k,hk,rfl⟩:=List.mem_iff_getElem.1 hx
  obtain ⟨f,h1,h2,_⟩:=hP.fst k hk
  rw [getD_lt hk] at h1
  rw [h1]
  exact ⟨by omega,by omega⟩
 obtain ⟨⟨av,bv,ov,cv,rfl,v1,v2,v3,-⟩,-⟩:=hR.slI (i:=0) rfl hfsI
 refine cond hS rfl (fun hT=>?_) (fun hF=>?_)
 case refine_2=>
  refine wp_exit ?_
  repeat (first | refine then_exit ?_ | refine block_exit ?_ | refine block_other rfl ?_)
  rw [hF] at hb48
  obtain rfl : i = next.length:=by have:=of_decide_eq_false hb48; omega
  have hpass:=hP.done
  have href2:=hpass.ref hs' href
  obtain ⟨hle,-⟩:=hpass.count href
  have hR2:=(hR.erase 2).erase 0
  dsimp only [List.eraseIdx_cons_succ,List.eraseIdx_cons_zero] at hR2
  refine wp_seq (seq_cut [(1,Vp M),(4,Vs X next.length next.length),(6,Vi count),(8,.slice av fs.length cv)] (· = w6) tab_ok hS ?_ (fun a w7 hS hw=>?_))
  ·repeat first|refine zP rfl ?_|refine zK rfl ?_
   exact o_nil ⟨⟨rfl,rfl,rfl,rfl,trivial⟩,rfl⟩
  subst hw
  refine wp_seq (wp_seq (seq_cut [(1,Vp M),(4,Vs X next.length next.length),(6,Vi count),(8,.slice av fs.length cv),(104,.bool (decide ((fs.length : Int) = count)))] (· = w7) tab_ok hS ?_ (fun a w8 hS hw=>?_)))
  ·repeat first|refine zP rfl ?_|refine zK rfl ?_
   refine zC rfl (rfl) ?_
   exact o_nil ⟨⟨rfl,rfl,rfl,rfl,rfl,trivial⟩,rfl⟩
  subst hw
  refine cond hS rfl (fun hT=>?_) (fun hF=>?_)
  ·refine wp_seq (seq_cut [(2,Vs X next.length next.length)] (· = w8) tab_ok hS ?_ (fun a w9 hS hw=>?_))
   ·repeat first|refine zP rfl ?_|refine zK rfl ?_
    exact o_nil ⟨⟨rfl,trivial⟩,rfl⟩
   subst hw
   have he : fs.length = count:=by have:=of_decide_eq_true hT; omega
   rw [he] at hpass
   refine wp_ret ?_
   repeat (first | refine then_ret ?_ | refine block_ret ?_)
   exact ret1 hS rfl rfl ⟨X,next.length,nx,count,rfl,hR2.mono hB.size,below_trans hB hK,hpass.done hs' href htop⟩
  ·have hne : fs.length ≠ count:=by have:=of_decide_eq_false hF; omega
   refine wp_skip ?_
   refine seq_cut [(1,Vp M),(4,Vs X next.length next.length),(6,Vi (fs.length : Nat))] (· = w8) tab_ok hS ?_ (fun a w9 hS hw=>?_)
   ·repeat first|refine zP rfl ?_|refine zK rfl ?_
    exact o_nil ⟨⟨rfl,rfl,rfl,trivial⟩,rfl⟩
   subst hw
   refine block_normal ?_
   refine ⟨next.length + 1 - fs.length,_,by omega,⟨X,next.length,fs.length,nx,by omega,rfl,rfl,hK,hR2,href2,hnr,fun i hi=>?_⟩,hS⟩
   by_cases h0 : 0 ≤ out.getD i 0
   ·exact .inl (hpass.pos i hi h0).2
   ·rw [hpass.neg i hi (by omega)]
    exact .inl (by omega)
 rw [hT] at hb48
 have hlt : i < next.length:=by have:=of_decide_eq_true hb48; omega
 have hinx : i < nx.length:=by omega
 have hio : i < out.length:=by omega
 refine wp_skip ?_
 refine wp_seq (wp_block ?_)
 refine wp_seq (seq_cut [(1,Vp M),(4,Vs O next.length cO),(6,Vi count),(7,Vs X next.length next.length),(8,.slice av fs.length cv),(9,Vi i)] (· = w6.setCell ⟨X,0 + i,none⟩ (Vi (-1))) tab_ok hS ?_ (fun a w7 hS hw=>?_))
 ·repeat first|refine zP rfl ?_|refine zK rfl ?_
  refine zI rfl (rfl) (hlt) ?_
  refine zS rfl rfl (hR.cellI (i:=1) rfl hinx) (hR.freeI (i:=1) rfl i) ?_
  exact o_nil ⟨⟨rfl,rfl,rfl,rfl,rfl,rfl,trivial⟩,rfl⟩
 obtain ⟨hR7,hg7⟩:=hR.storeI (i:=1) rfl i (-1)
 have hK7:=below_of_grown hK hg7 (fun q hq=>by cases hq; exact (hR.lt (i:=1) rfl rfl).1)
 rw [← hw] at hR7 hK7
 clear hw hg7 hR hK
 dsimp only [List.set_cons_zero,List.set_cons_succ] at hR7
 obtain ⟨o,ho⟩ : ∃ o,out[i] = o:=⟨_,rfl⟩
 have hoi : out.getD i 0 = o:=by rw [getD_lt hio,ho]
 refine wp_seq (cut (F:=fun a' w'=>∃ nx' : List Int,St Tryz.f74.ntmps a' [(1,Vp M),(4,Vs O next.length cO),(6,Vi count),(7,Vs X next.length next.length),(8,.slice av fs.length cv),(9,Vi i)] ∧ RowKit.Below wc.heap.size wc w' ∧ Rows wc.heap.size w' [oI (.slice av fs.length cv) fs,oI (Vs X next.length next.length) nx',oI (Vs O next.length cO) out] ∧
   ((o < 0 ∧ nx' = nx.set i (-1)) ∨ (0 ≤ o ∧ ∃ k : Nat,k < fs.length ∧ alikeM next out i (fs.getD k 0).toNat L.toNat = true ∧ nx' = nx.set i k) ∨ (0 ≤ o ∧ nx' = nx.set i (-1) ∧ ∀ k,k < fs.length → alikeM next out i (fs.getD k 0).toNat L.toNat = false))) ?_ ?_)
 ·refine wp_seq (seq_cut [(1,Vp M),(4,Vs O next.length cO),(6,Vi count),(7,Vs X next.length next.length),(8,.slice av fs.length cv),(9,Vi i),(10,Vi 0)] (· = w7) tab_ok hS ?_ (fun a w8 hS hw=>?_))
  ·repeat first|refine zP rfl ?_|refine zK rfl ?_
   exact o_nil ⟨⟨rfl,rfl,rfl,rfl,rfl,rfl,rfl,trivial⟩,rfl⟩
  subst hw
  refine wp_block (loop0 hS (fun g E wr=>∃ k : Nat,k ≤ fs.length ∧ g = fs.length - k ∧ E = [(1,Vp M),(4,Vs O next.length cO),(6,Vi count),(7,Vs X next.length next.length),(8,.slice av fs.length cv),(9,Vi i),(10,Vi k)] ∧ RowKit.Below wc.heap.size wc wr ∧ Rows wc.heap.size wr [oI (.slice av fs.length cv) fs,oI (Vs X next.length next.length) (nx.set i (-1)),oI (Vs O next.length cO) out] ∧ (∀ j,j < k → alikeM next out i (fs.getD j 0).toNat L.toNat = false))
   fs.length ⟨0,Nat.zero_le _,rfl,rfl,hK7,hR7,fun j hj=>by omega⟩ ?_)
  clear hK7 hR7 hS
  rintro g2 E wr a1 ⟨k,hk,rfl,rfl,hK,hR,hno⟩ hS
  obtain ⟨b64,hb64⟩ : ∃ b,(decide ((k : Int) < fs.length) && decide (0 ≤ o)) = b:=⟨_,rfl⟩
  refine wp_seq (wp_seq (seq_cut [(1,Vp M),(4,Vs O next.length cO),(6,Vi count),(7,Vs X next.length next.length),(8,.slice av fs.length cv),(9,Vi i),(10,Vi k),(64,.bool b64)] (· = wr) tab_ok hS ?_ (fun a w9 hS hw=>?_)))
  ·repeat first|refine zP rfl ?_|refine zK rfl ?_
   cases e1 : decide ((k : Int) < fs.length)
   case false=>
    rw [e1,Bool.false_and] at hb64; subst hb64
    refine zC rfl (e1) ?_
    repeat first|refine zP rfl ?_|refine zK rfl ?_
    exact o_nil ⟨⟨rfl,rfl,rfl,rfl,rfl,rfl,rfl,rfl,trivial⟩,rfl⟩
   case true=>
    rw [e1,Bool.true_and,← ho] at hb64
    refine zC rfl (e1) ?_
    repeat first|refine zP rfl ?_|refine zK rfl ?_
    refine zI rfl (rfl) (hlt) ?_
    refine zL rfl (hR.cellI (i:=2) rfl hio) ?_
    refine zC rfl (hb64) ?_
    repeat first|refine zP rfl ?_|refine zK rfl ?_
    exact o_nil ⟨⟨rfl,rfl,rfl,rfl,rfl,rfl,rfl,rfl,trivial⟩,rfl⟩
  subst hw
  refine cond hS rfl (fun hT=>?_) (fun hF=>?_)
  case refine_2=>
   refine wp_exit ?_
   repeat (first | refine then_exit ?_ | refine block_exit ?_ | refine block_other rfl ?_)
   refine ⟨_,hS.sub ⟨rfl,rfl,rfl,rfl,rfl,rfl,trivial⟩,hK,hR,?_⟩
   rw [hF,Bool.and_eq_false_iff,decide_eq_false_iff_not,decide_eq_false_iff_not] at hb64
   by_cases h0 : o < 0
   ·exact .inl ⟨h0,rfl⟩
   ·exact .inr (.inr ⟨by omega,rfl,fun j hj=>hno j (by omega)⟩)
  rw [hT,Bool.and_eq_true,decide_eq_true_eq,decide_eq_true_eq] at hb64
  have hkf : k < fs.length:=by omega
  obtain ⟨f,hf1,hf2,hf3,hf4⟩:=hP.fst k hkf
  have hfk : fs[k] = (f : Int):=by rw [← hf1,getD_lt hkf]
  obtain rfl:=v1 (by omega)
  refine wp_skip ?_
  refine wp_seq (wp_block ?_)
  obtain ⟨b74,hb74⟩ : ∃ b,alikeM next out i f L.toNat = b:=⟨_,rfl⟩
  have hoI : ∀ x ∈ out,I64 x:=fun x hx=>by have:=hrg x hx; exact ⟨by omega,by omega⟩
  have hcfs : w9.cell? ⟨bv,ov + k,none⟩ = some (Vi f):=by
   obtain ⟨⟨_,b',o',_,e,u1,_,_,u4⟩,_⟩:=hR.slI (i:=0) rfl hfsI
   have e2:=u1 (by omega)
   subst e2
   simp only [Value.slice.injEq,Option.some.injEq,Addr.mk.injEq] at e
   obtain ⟨y,hy1,hy2,_⟩:=u4 k hkf
   rw [← e.1.1,← e.1.2.1] at hy1
   rw [hy1,hy2,hfk]
  refine wp_seq (quiet_cut [(1,Vp M),(4,Vs O next.length cO),(6,Vi count),(7,Vs X next.length next.length),(8,.slice (some ⟨bv,ov,none⟩) fs.length cv),(9,Vi i),(10,Vi k),(74,.bool b74)] tab_ok mixed (by kernel_rfl) hS ?_ (fun a w10 hS hw=>?_))
  ·subst hb74
   refine qA ([Vi L,Vi s,vn,ve]) rfl rfl ((hx.keep hK).cells) ?_
   repeat first|refine qP rfl ?_|refine qK rfl ?_
   refine qI rfl (rfl) (hkf) ?_
   refine qL rfl (hcfs) ?_
   refine qF (.bool (alikeM next out i f L.toNat)) rfl (en_alike) (fun w1 h1=>alike_any L s vn ve _ next fin out i f w1 ((hm.keep hK).keep h1) hs ((hR.slI (i:=2) rfl hoI).1.keep h1 (fun _ _ h=>h)) hol hlt (by omega)) ?_
   exact q_nil ⟨rfl,rfl,rfl,rfl,rfl,rfl,rfl,rfl,trivial⟩
  have hK10:=below_trans hK hw
  have hR10:=hR.below hw
  clear hw hK hR hcfs
  refine cond hS rfl (fun hT=>?_) (fun hF=>?_)
  ·rw [hT] at hb74
   refine wp_seq (seq_cut [(1,Vp M),(4,Vs O next.length cO),(6,Vi count),(7,Vs X next.length next.length),(8,.slice (some ⟨bv,ov,none⟩) fs.length cv),(9,Vi i)] (· = w10.setCell ⟨X,0 + i,none⟩ (Vi k)) tab_ok hS ?_ (fun a w11 hS hw=>?_))
   ·repeat first|refine zP rfl ?_|refine zK rfl ?_
    refine zI rfl (rfl) (hlt) ?_
    refine zS rfl rfl (hR10.cellI (i:=1) rfl (by simpa using hinx)) (hR10.freeI (i:=1) rfl i) ?_
    exact o_nil ⟨⟨rfl,rfl,rfl,rfl,rfl,rfl,trivial⟩,rfl⟩
   obtain ⟨hR11,hg11⟩:=hR10.storeI (i:=1) rfl i k
   have hK11:=below_of_grown hK10 hg11 (fun q hq=>by cases hq; exact (hR10.lt (i:=1) rfl rfl).1)
   rw [← hw] at hR11 hK11
   dsimp only [List.set_cons_zero,List.set_cons_succ] at hR11
   rw [List.set_set] at hR11
   refine wp_exit ?_
   repeat (first | refine then_exit ?_ | refine block_exit ?_ | refine block_other rfl ?_)
   exact ⟨_,hS,hK11,hR11,.inr (.inl ⟨hb64.2,k,hkf,by rw [hf1,Int.toNat_natCast]; exact hb74,rfl⟩)⟩
  ·rw [hF] at hb74
   refine wp_skip ?_
   refine block_normal ?_
   refine then_normal ?_
   refine seq_cut [(1,Vp M),(4,Vs O next.length cO),(6,Vi count),(7,Vs X next.length next.length),(8,.slice (some ⟨bv,ov,none⟩) fs.length cv),(9,Vi i),(10,Vi (k + 1 : Nat))] (· = w10) tab_ok hS ?_ (fun a w11 hS hw=>?_)
   ·repeat first|refine zP rfl ?_|refine zK rfl ?_
    refine zN rfl (wrap_succ (by omega)) ?_
    repeat first|refine zP rfl ?_|refine zK rfl ?_
    exact o_nil ⟨⟨rfl,rfl,rfl,rfl,rfl,rfl,rfl,trivial⟩,rfl⟩
   subst hw
   refine ⟨fs.length - (k + 1),_,by omega,⟨k + 1,hkf,rfl,rfl,hK10,hR10,fun j hj=>?_⟩,hS⟩
   rcases Nat.lt_or_ge j k with h1 | h1
   ·exact hno j h1
   ·obtain rfl : j = k:=by omega
    rw [hf1,Int.toNat_natCast]; exact hb74
 clear hK7 hR7 hS
 rintro a w8 ⟨nx',hS,hK,hR,hcase⟩
 have hnl' : i < nx'.length:=by
  rcases hcase with ⟨_,e⟩ | ⟨_,k,_,_,e⟩ | ⟨_,e,_⟩ <;> rw [e] <;> simpa using hinx
 obtain ⟨b90,hb90⟩ : ∃ b,(decide (0 ≤ o) && decide (nx'[i] < 0)) = b:=⟨_,rfl⟩
 refine wp_seq (seq_cut [(1,Vp M),(4,Vs O next.length cO),(6,Vi count),(7,Vs X next.length next.length),(8,.slice av fs.length cv),(9,Vi i),(90,.bool b90)] (· = w8) tab_ok hS ?_ (fun a w9 hS hw=>?_))
 ·repeat first|refine zP rfl ?_|refine zK rfl ?_
  refine zI rfl (rfl) (hlt) ?_
  refine zL rfl (hR.cellI (i:=2) rfl hio) ?_
  rw [← ho] at hb90
  cases e1 : decide (0 ≤ out[i])
  case false=>
   rw [e1,Bool.false_and] at hb90; subst hb90
   refine zC rfl (e1) ?_
   repeat first|refine zP rfl ?_|refine zK rfl ?_
   exact o_nil ⟨⟨rfl,rfl,rfl,rfl,rfl,rfl,rfl,trivial⟩,rfl⟩
  case true=>
   rw [e1,Bool.true_and] at hb90
   refine zC rfl (e1) ?_
   repeat first|refine zP rfl ?_|refine zK rfl ?_
   refine zI rfl (rfl) (hlt) ?_
   refine zL rfl (hR.cellI (i:=1) rfl hnl') ?_
   refine zC rfl (hb90) ?_
   repeat first|refine zP rfl ?_|refine zK rfl ?_
   exact o_nil ⟨⟨rfl,rfl,rfl,rfl,rfl,rfl,rfl,trivial⟩,rfl⟩
 subst hw
 have hin : ∀ (x : Int),(nx.set i x)[i]'(by simpa using hinx) = x:=fun x=>by simp
 refine cut (F:=fun a' w'=>∃ (vf : Value) (nx fs : List Int),St Tryz.f74.ntmps a' [(1,Vp M),(4,Vs O next.length cO),(6,Vi count),(7,Vs X next.length next.length),(8,vf),(9,Vi i)] ∧ RowKit.Below wc.heap.size wc w' ∧ Rows wc.heap.size w' [oI vf fs,oI (Vs X next.length next.length) nx,oI (Vs O next.length cO) out] ∧ PassI L.toNat next out (i + 1) nx fs ∧ (∀ x ∈ nx,-1 ≤ x ∧ x ≤ next.length)) ?_ ?_
 ·have hset : ∀ y : Int,-1 ≤ y → y ≤ next.length → ∀ x ∈ nx.set i y,-1 ≤ x ∧ x ≤ next.length:=fun y h1 h2 x hx=>by
   rcases List.mem_or_eq_of_mem_set hx with h | h
   ·exact hnr x h
   ·rw [h]; exact ⟨h1,h2⟩
  refine cond hS rfl (fun hT=>?_) (fun hF=>?_)
  ·rw [hT,Bool.and_eq_true,decide_eq_true_eq,decide_eq_true_eq] at hb90
   rcases hcase with ⟨h0,e⟩ | ⟨h0,k,hk,ha,e⟩ | ⟨h0,e,ha⟩
   ·omega
   ·exfalso
    subst e
    rw [hin] at hb90
    omega
   subst e
   refine wp_seq (seq_cut [(1,Vp M),(4,Vs O next.length cO),(6,Vi count),(7,Vs X next.length next.length),(8,.slice av fs.length cv),(9,Vi i)] (· = w9.setCell ⟨X,0 + i,none⟩ (Vi (fs.length : Nat))) tab_ok hS ?_ (fun a w10 hS hw=>?_))
   ·repeat first|refine zP rfl ?_|refine zK rfl ?_
    refine zI rfl (rfl) (hlt) ?_
    refine zS rfl rfl (hR.cellI (i:=1) rfl hnl') (hR.freeI (i:=1) rfl i) ?_
    exact o_nil ⟨⟨rfl,rfl,rfl,rfl,rfl,rfl,trivial⟩,rfl⟩
   obtain ⟨hR10,hg10⟩:=hR.storeI (i:=1) rfl i (fs.length : Nat)
   have hK10:=below_of_grown hK hg10 (fun q hq=>by cases hq; exact (hR.lt (i:=1) rfl rfl).1)
   rw [← hw] at hR10 hK10
   dsimp only [List.set_cons_zero,List.set_cons_succ] at hR10
   rw [List.set_set] at hR10
   clear hw hg10 hR hK
   refine seq_cutx (α:=Value) (fun v=>[(1,Vp M),(4,Vs O next.length cO),(6,Vi count),(7,Vs X next.length next.length),(8,v),(9,Vi i)]) (fun v w'=>RowKit.Below wc.heap.size wc w' ∧ Rows wc.heap.size w' [oI v (fs ++ [(i : Int)]),oI (Vs X next.length next.length) (nx.set i (fs.length : Nat)),oI (Vs O next.length cO) out]) tab_ok hS ?_ (fun v a w13 hS h13=>⟨v,_,_,hS,h13.1,h13.2,hP.new hlt (by rw [hoi]; exact h0) ha,hset _ (by omega) (by omega)⟩)
   repeat first|refine zP rfl ?_|refine zK rfl ?_
   refine o_step rfl rfl rfl ?_
   refine Exists.intro [(0,Vi ((i : Int)))] (Exists.intro #[Vi ((i : Int))] (And.intro (And.intro rfl rfl) (And.intro (by decide) (And.intro (fillI _ _ _) ?_))))
   have hy1:=below_alloc w10 (.cells #[Vi i] 3)
   have hR11:=hR10.alloc (.cells #[Vi i] 3)
   have ask : AppAsk (w10.alloc (.cells #[Vi i] 3)) ⟨3,.int .i64,1,8,Vi 0⟩ (.slice av fs.length cv) fs.length (ints fs) (Vs w10.heap.size 1 1) 1 [Vi i] wc.heap.size:=
    ⟨hR11.1 0 _ rfl,.inr ⟨_,0,_,rfl,cell_alloc_new rfl,trivial⟩,rfl,(by simp [Value.oneCell']),(by omega),(by show (fs.length + 1) * 8 ≤ _; omega),Nat.le_trans hK10.size hy1.size⟩
   refine o_step rfl rfl rfl ?_
   refine Exists.intro _ (Exists.intro _ (Exists.intro _ (Exists.intro _ (Exists.intro _ (And.intro (ask) (And.intro (fun _ h=>h.symm) (And.intro (by decide) ?_)))))))
   rintro v' w13 hown hgr - hat
   have hR13:=hR11.appI (i:=0) rfl hown hgr hat
   dsimp only [List.set_cons_zero] at hR13
   have e4:=below_of_grown (below_trans hK10 hy1) hgr (fun q hq=>(hR11.lt (i:=0) rfl hq).1)
   repeat first|refine zP rfl ?_|refine zK rfl ?_
   exact o_nil ⟨v',⟨rfl,rfl,rfl,rfl,rfl,rfl,trivial⟩,e4,hR13⟩
  ·refine wp_skip ⟨_,nx',fs,hS.sub ⟨rfl,rfl,rfl,rfl,rfl,rfl,trivial⟩,hK,hR,?_⟩
   rw [hF,Bool.and_eq_false_iff,decide_eq_false_iff_not,decide_eq_false_iff_not] at hb90
   rcases hcase with ⟨h0,e⟩ | ⟨h0,k,hk,ha,e⟩ | ⟨h0,e,ha⟩
   ·subst e
    exact ⟨hP.dead hlt (by rw [hoi]; exact h0),hset _ (by omega) (by omega)⟩
   ·subst e
    exact ⟨hP.like hlt (by rw [hoi]; exact h0) hk ha,hset _ (by omega) (by omega)⟩
   ·exfalso
    subst e
    rw [hin] at hb90
    omega
 rintro a w10 ⟨vf,nx2,fs2,hS,hK',hR',hP',hnr'⟩
 refine block_normal ?_
 refine then_normal ?_
 refine seq_cut [(1,Vp M),(4,Vs O next.length cO),(6,Vi count),(7,Vs X next.length next.length),(8,vf),(9,Vi (i + 1 : Nat))] (· = w10) tab_ok hS ?_ (fun a w11 hS hw=>?_)
 ·repeat first|refine zP rfl ?_|refine zK rfl ?_
  refine zN rfl (wrap_succ (by omega)) ?_
  repeat first|refine zP rfl ?_|refine zK rfl ?_
  exact o_nil ⟨⟨rfl,rfl,rfl,rfl,rfl,rfl,trivial⟩,rfl⟩
 subst hw
 exact ⟨next.length - (i + 1),_,by omega,⟨i + 1,vf,nx2,fs2,hlt,rfl,rfl,hK',hR',hP',hnr'⟩,hS⟩
end Go.Proofs.YthcoppfiahnpoaaGreat
namespace Go.Proofs.YthcoppfiahnpoaaGreat
open Go Sym
theorem own_makeG (w : World) (base e m : Nat) (z : Value) (hb : base ≤ w.heap.size) (hm : m ≤ 9223372036854775807) : (w.alloc (.cells (madeCells #[z] m) e)).ownsRow base e 1 (Vs w.heap.size m m) m (List.replicate m z):=by
 have h:=World.ownsRow_lit (base:=base) (e:=e) (size:=1) w (madeCells #[z] m) m hb (by unfold maxLen; exact hm) (by simp [madeCells])
 rw [toList_madeCells_one] at h
 exact h
structure R9 (base : Nat) (w : World) (P Q K m : Nat) (L s' : Int) : Prop where
 p : w.ownsRow base 35 1 (Vs P m m) m (List.replicate m (.slice none 0 0))
 q : w.ownsRow base 4 1 (Vs Q m m) m (List.replicate m (.bool false))
 k : OwnB w K 25 [Vi L,Vi s',Vs P m m,Vs Q m m]
 b : base ≤ K
theorem R9.fin {base : Nat} {w0 w : World} {P Q K m : Nat} {L s' : Int} (hb : RowKit.Below w0.heap.size w0 w) (hK : w0.heap.size ≤ K) (hbK : base ≤ K) (p : w.ownsRow base 35 1 (Vs P m m) m (List.replicate m (.slice none 0 0)))
  (q : w.ownsRow base 4 1 (Vs Q m m) m (List.replicate m (.bool false))) (k : OwnB w K 25 [Vi 0,Vi 0,.slice none 0 0,.slice none 0 0]) :
  RowKit.Below w0.heap.size w0 (w.setCells K 0 [Vi L,Vi s',Vs P m m,Vs Q m m]) ∧ R9 base (w.setCells K 0 [Vi L,Vi s',Vs P m m,Vs Q m m]) P Q K m L s':=by
 have hg:=grown_sets K [Vi L,Vi s',Vs P m m,Vs Q m m] 0 w
 refine ⟨below_of_grown hb hg (fun x hx=>by cases hx; exact hK),⟨p.kept hg (.inr fun e=>own_neB p k (by decide) e.symm),q.kept hg (.inr fun e=>own_neB q k (by decide) e.symm),k.sets rfl,hbK⟩⟩
set_option maxHeartbeats 2000000 in
theorem shrunk_r9 {base : Nat} {w : World} {M N O cO m : Nat} {L : Int} {s : Nat} {vn ve : Value} {cls : List Int} (hx : Box w M L s vn ve) (hO : w.ownsRow base 3 1 (Vs O cls.length cO) cls.length (ints cls)) (hs : s < cls.length) (hb : base ≤ w.heap.size) (hm : m ≤ 100000000)
  {Q : Exit → Act → World → Prop} {a : Act} {ops : Array Oper} {id : Nat} (hops : Sym.regionOf Tryz.f47.body 9 = some (id,ops))
  (hS : St Tryz.f47.ntmps a [(1,Vp M),(2,Vp N),(3,Vs O cls.length cO),(4,Vi m)])
  (hq : ∀ (x : Nat × Nat × Nat) (a' : Act) (w' : World),St Tryz.f47.ntmps a' [(1,Vp M),(2,Vp N),(3,Vs O cls.length cO),(6,Vp x.2.2)] → RowKit.Below w.heap.size w w' ∧ R9 base w' x.1 x.2.1 x.2.2 m L cls[s] → Q .normal a' w') : (Code.region id ops true).wp Tryz.prog Q a w:=by
 cases hops
 refine any_cutx (α:=Nat × Nat × Nat) 14 (fun x=>[(1,Vp M),(2,Vp N),(3,Vs O cls.length cO),(6,Vp x.2.2)]) (fun x w'=>RowKit.Below w.heap.size w w' ∧ R9 base w' x.1 x.2.1 x.2.2 m L cls[s]) mixed hS ?_ hq
 have hy : RowKit.Below w.drew.heap.size w.drew w.drew:=RowKit.Below.refl _ _
 have hb' : base ≤ w.drew.heap.size:=hb
 have hc : w.cell? ⟨O,0 + s,none⟩ = some (Vi cls[s]):=by
  rw [Nat.zero_add,World.ownsRow.cellAt hO s (by omega)]
  simp [hs]
 refine yT 0 tab_ok rfl (by kernel_rfl) hy rfl (rfl) ?_
 refine yL 1 tab_ok rfl (by kernel_rfl) hy rfl rfl (hx.c0) ?_
 refine yT 2 tab_ok rfl (by kernel_rfl) hy rfl (rfl) ?_
 refine yT 3 tab_ok rfl (by kernel_rfl) hy rfl (rfl) ?_
 refine yL 4 tab_ok rfl (by kernel_rfl) hy rfl rfl (hx.c1) ?_
 refine yT 5 tab_ok rfl (by kernel_rfl) hy rfl (Exists.intro _ (And.intro (rfl) (And.intro (hs) rfl))) ?_
 refine yL 6 tab_ok rfl (by kernel_rfl) hy rfl rfl (hc) ?_
 refine yT 7 tab_ok rfl (by kernel_rfl) hy rfl (rfl) ?_
 refine yT 9 tab_ok rfl (by kernel_rfl) hy rfl (rfl) ?_
 refine y_three 8 10 12 (by kernel_rfl) (y_op 8 tab_ok rfl rfl rfl rfl ?_) (y_op 10 tab_ok rfl rfl rfl rfl ?_) (y_op 12 tab_ok rfl rfl rfl rfl ?_)
 ·
  refine Exists.intro m (Exists.intro m (And.intro rfl (And.intro rfl (And.intro (Nat.le_refl _) (And.intro rfl (And.intro rfl (And.intro (by show 24 * _ ≤ _; omega) (And.intro (by omega) ?_))))))))
  have hy1:=hy.alloc (Nat.le_refl _) (.cells (madeCells #[.slice none 0 0] m) 35)
  refine And.intro (.inr hy1) ?_
  have ownP:=own_makeG (w.drew) base 35 m (.slice none 0 0) hb' (by omega)
  refine y_two 10 12 (by kernel_rfl) (y_op 10 tab_ok rfl rfl rfl rfl ?_) (y_op 12 tab_ok rfl rfl rfl rfl ?_)
  ·
   refine Exists.intro m (Exists.intro m (And.intro rfl (And.intro rfl (And.intro (Nat.le_refl _) (And.intro rfl (And.intro rfl (And.intro (by show 1 * _ ≤ _; omega) (And.intro (by omega) ?_))))))))
   have hy2:=hy1.alloc (hy1.size) (.cells (madeCells #[.bool false] m) 4)
   refine And.intro (.inr hy2) ?_
   replace ownP:=ownP.alloc (.cells (madeCells #[.bool false] m) 4)
   have ownQ:=own_makeG ((w.drew).alloc (.cells (madeCells #[.slice none 0 0] m) 35)) base 4 m (.bool false) (Nat.le_trans hb' hy1.size) (by omega)
   refine yT 11 tab_ok rfl (by kernel_rfl) hy2 rfl (rfl) ?_
   refine y_one 12 (by kernel_rfl) (y_op 12 tab_ok rfl rfl rfl rfl ?_)
   have hy3:=hy2.alloc (hy2.size) (.cells #[Vi 0,Vi 0,.slice none 0 0,.slice none 0 0] 25)
   refine And.intro (.inr hy3) ?_
   replace ownP:=ownP.alloc (.cells #[Vi 0,Vi 0,.slice none 0 0,.slice none 0 0] 25)
   replace ownQ:=ownQ.alloc (.cells #[Vi 0,Vi 0,.slice none 0 0,.slice none 0 0] 25)
   have ownK:=OwnB.new (((w.drew).alloc (.cells (madeCells #[.slice none 0 0] m) 35)).alloc (.cells (madeCells #[.bool false] m) 4)) [Vi 0,Vi 0,.slice none 0 0,.slice none 0 0] 25
   refine y_one 13 (by kernel_rfl) (y_op0 13 tab_ok rfl rfl rfl ?_)
   have fin:=R9.fin (w0:=w) (L:=L) (s':=cls[s]) (undrew hy3) (hy2.size) (Nat.le_trans hb' hy2.size) ownP ownQ ownK
   refine And.intro rfl (And.intro rfl (And.intro (own_cells4 ownK) (And.intro (.inr (below_of_grown hy3 (grown_sets _ _ 0 _) (fun k hk=>by cases hk; exact hy2.size))) ?_)))
   exact y_endx (_,_,_) (by kernel_rfl) ⟨rfl,rfl,rfl,rfl,trivial⟩ fin
  ·
   have hy2:=hy1.alloc (hy1.size) (.cells #[Vi 0,Vi 0,.slice none 0 0,.slice none 0 0] 25)
   refine And.intro (.inr hy2) ?_
   replace ownP:=ownP.alloc (.cells #[Vi 0,Vi 0,.slice none 0 0,.slice none 0 0] 25)
   have ownK:=OwnB.new ((w.drew).alloc (.cells (madeCells #[.slice none 0 0] m) 35)) [Vi 0,Vi 0,.slice none 0 0,.slice none 0 0] 25
   refine y_one 10 (by kernel_rfl) (y_op 10 tab_ok rfl rfl rfl rfl ?_)
   refine Exists.intro m (Exists.intro m (And.intro rfl (And.intro rfl (And.intro (Nat.le_refl _) (And.intro rfl (And.intro rfl (And.intro (by show 1 * _ ≤ _; omega) (And.intro (by omega) ?_))))))))
   have hy3:=hy2.alloc (hy2.size) (.cells (madeCells #[.bool false] m) 4)
   refine And.intro (.inr hy3) ?_
   replace ownP:=ownP.alloc (.cells (madeCells #[.bool false] m) 4)
   replace ownK : OwnB _ _ _ _:=ownK.kept (row:=none) (grown_alloc _ (.cells (madeCells #[.bool false] m) 4)) (by simp)
   have ownQ:=own_makeG (((w.drew).alloc (.cells (madeCells #[.slice none 0 0] m) 35)).alloc (.cells #[Vi 0,Vi 0,.slice none 0 0,.slice none 0 0] 25)) base 4 m (.bool false) (Nat.le_trans hb' hy2.size) (by omega)
   refine yT 11 tab_ok rfl (by kernel_rfl) hy3 rfl (rfl) ?_
   refine y_one 13 (by kernel_rfl) (y_op0 13 tab_ok rfl rfl rfl ?_)
   have fin:=R9.fin (w0:=w) (L:=L) (s':=cls[s]) (undrew hy3) (hy1.size) (Nat.le_trans hb' hy1.size) ownP ownQ ownK
   refine And.intro rfl (And.intro rfl (And.intro (own_cells4 ownK) (And.intro (.inr (below_of_grown hy3 (grown_sets _ _ 0 _) (fun k hk=>by cases hk; exact hy1.size))) ?_)))
   exact y_endx (_,_,_) (by kernel_rfl) ⟨rfl,rfl,rfl,rfl,trivial⟩ fin
 ·
  refine Exists.intro m (Exists.intro m (And.intro rfl (And.intro rfl (And.intro (Nat.le_refl _) (And.intro rfl (And.intro rfl (And.intro (by show 1 * _ ≤ _; omega) (And.intro (by omega) ?_))))))))
  have hy1:=hy.alloc (Nat.le_refl _) (.cells (madeCells #[.bool false] m) 4)
  refine And.intro (.inr hy1) ?_
  have ownQ:=own_makeG (w.drew) base 4 m (.bool false) hb' (by omega)
  refine y_two 8 12 (by kernel_rfl) (y_op 8 tab_ok rfl rfl rfl rfl ?_) (y_op 12 tab_ok rfl rfl rfl rfl ?_)
  ·
   refine Exists.intro m (Exists.intro m (And.intro rfl (And.intro rfl (And.intro (Nat.le_refl _) (And.intro rfl (And.intro rfl (And.intro (by show 24 * _ ≤ _; omega) (And.intro (by omega) ?_))))))))
   have hy2:=hy1.alloc (hy1.size) (.cells (madeCells #[.slice none 0 0] m) 35)
   refine And.intro (.inr hy2) ?_
   replace ownQ:=ownQ.alloc (.cells (madeCells #[.slice none 0 0] m) 35)
   have ownP:=own_makeG ((w.drew).alloc (.cells (madeCells #[.bool false] m) 4)) base 35 m (.slice none 0 0) (Nat.le_trans hb' hy1.size) (by omega)
   refine yT 11 tab_ok rfl (by kernel_rfl) hy2 rfl (rfl) ?_
   refine y_one 12 (by kernel_rfl) (y_op 12 tab_ok rfl rfl rfl rfl ?_)
   have hy3:=hy2.alloc (hy2.size) (.cells #[Vi 0,Vi 0,.slice none 0 0,.slice none 0 0] 25)
   refine And.intro (.inr hy3) ?_
   replace ownQ:=ownQ.alloc (.cells #[Vi 0,Vi 0,.slice none 0 0,.slice none 0 0] 25)
   replace ownP:=ownP.alloc (.cells #[Vi 0,Vi 0,.slice none 0 0,.slice none 0 0] 25)
   have ownK:=OwnB.new (((w.drew).alloc (.cells (madeCells #[.bool false] m) 4)).alloc (.cells (madeCells #[.slice none 0 0] m) 35)) [Vi 0,Vi 0,.slice none 0 0,.slice none 0 0] 25
   refine y_one 13 (by kernel_rfl) (y_op0 13 tab_ok rfl rfl rfl ?_)
   have fin:=R9.fin (w0:=w) (L:=L) (s':=cls[s]) (undrew hy3) (hy2.size) (Nat.le_trans hb' hy2.size) ownP ownQ ownK
   refine And.intro rfl (And.intro rfl (And.intro (own_cells4 ownK) (And.intro (.inr (below_of_grown hy3 (grown_sets _ _ 0 _) (fun k hk=>by cases hk; exact hy2.size))) ?_)))
   exact y_endx (_,_,_) (by kernel_rfl) ⟨rfl,rfl,rfl,rfl,trivial⟩ fin
  ·
   have hy2:=hy1.alloc (hy1.size) (.cells #[Vi 0,Vi 0,.slice none 0 0,.slice none 0 0] 25)
   refine And.intro (.inr hy2) ?_
   replace ownQ:=ownQ.alloc (.cells #[Vi 0,Vi 0,.slice none 0 0,.slice none 0 0] 25)
   have ownK:=OwnB.new ((w.drew).alloc (.cells (madeCells #[.bool false] m) 4)) [Vi 0,Vi 0,.slice none 0 0,.slice none 0 0] 25
   refine y_one 8 (by kernel_rfl) (y_op 8 tab_ok rfl rfl rfl rfl ?_)
   refine Exists.intro m (Exists.intro m (And.intro rfl (And.intro rfl (And.intro (Nat.le_refl _) (And.intro rfl (And.intro rfl (And.intro (by show 24 * _ ≤ _; omega) (And.intro (by omega) ?_))))))))
   have hy3:=hy2.alloc (hy2.size) (.cells (madeCells #[.slice none 0 0] m) 35)
   refine And.intro (.inr hy3) ?_
   replace ownQ:=ownQ.alloc (.cells (madeCells #[.slice none 0 0] m) 35)
   replace ownK : OwnB _ _ _ _:=ownK.kept (row:=none) (grown_alloc _ (.cells (madeCells #[.slice none 0 0] m) 35)) (by simp)
   have ownP:=own_makeG (((w.drew).alloc (.cells (madeCells #[.bool false] m) 4)).alloc (.cells #[Vi 0,Vi 0,.slice none 0 0,.slice none 0 0] 25)) base 35 m (.slice none 0 0) (Nat.le_trans hb' hy2.size) (by omega)
   refine yT 11 tab_ok rfl (by kernel_rfl) hy3 rfl (rfl) ?_
   refine y_one 13 (by kernel_rfl) (y_op0 13 tab_ok rfl rfl rfl ?_)
   have fin:=R9.fin (w0:=w) (L:=L) (s':=cls[s]) (undrew hy3) (hy1.size) (Nat.le_trans hb' hy1.size) ownP ownQ ownK
   refine And.intro rfl (And.intro rfl (And.intro (own_cells4 ownK) (And.intro (.inr (below_of_grown hy3 (grown_sets _ _ 0 _) (fun k hk=>by cases hk; exact hy1.size))) ?_)))
   exact y_endx (_,_,_) (by kernel_rfl) ⟨rfl,rfl,rfl,rfl,trivial⟩ fin
 ·
  have hy1:=hy.alloc (Nat.le_refl _) (.cells #[Vi 0,Vi 0,.slice none 0 0,.slice none 0 0] 25)
  refine And.intro (.inr hy1) ?_
  have ownK:=OwnB.new (w.drew) [Vi 0,Vi 0,.slice none 0 0,.slice none 0 0] 25
  refine y_two 8 10 (by kernel_rfl) (y_op 8 tab_ok rfl rfl rfl rfl ?_) (y_op 10 tab_ok rfl rfl rfl rfl ?_)
  ·
   refine Exists.intro m (Exists.intro m (And.intro rfl (And.intro rfl (And.intro (Nat.le_refl _) (And.intro rfl (And.intro rfl (And.intro (by show 24 * _ ≤ _; omega) (And.intro (by omega) ?_))))))))
   have hy2:=hy1.alloc (hy1.size) (.cells (madeCells #[.slice none 0 0] m) 35)
   refine And.intro (.inr hy2) ?_
   replace ownK : OwnB _ _ _ _:=ownK.kept (row:=none) (grown_alloc _ (.cells (madeCells #[.slice none 0 0] m) 35)) (by simp)
   have ownP:=own_makeG ((w.drew).alloc (.cells #[Vi 0,Vi 0,.slice none 0 0,.slice none 0 0] 25)) base 35 m (.slice none 0 0) (Nat.le_trans hb' hy1.size) (by omega)
   refine y_one 10 (by kernel_rfl) (y_op 10 tab_ok rfl rfl rfl rfl ?_)
   refine Exists.intro m (Exists.intro m (And.intro rfl (And.intro rfl (And.intro (Nat.le_refl _) (And.intro rfl (And.intro rfl (And.intro (by show 1 * _ ≤ _; omega) (And.intro (by omega) ?_))))))))
   have hy3:=hy2.alloc (hy2.size) (.cells (madeCells #[.bool false] m) 4)
   refine And.intro (.inr hy3) ?_
   replace ownK : OwnB _ _ _ _:=ownK.kept (row:=none) (grown_alloc _ (.cells (madeCells #[.bool false] m) 4)) (by simp)
   replace ownP:=ownP.alloc (.cells (madeCells #[.bool false] m) 4)
   have ownQ:=own_makeG (((w.drew).alloc (.cells #[Vi 0,Vi 0,.slice none 0 0,.slice none 0 0] 25)).alloc (.cells (madeCells #[.slice none 0 0] m) 35)) base 4 m (.bool false) (Nat.le_trans hb' hy2.size) (by omega)
   refine yT 11 tab_ok rfl (by kernel_rfl) hy3 rfl (rfl) ?_
   refine y_one 13 (by kernel_rfl) (y_op0 13 tab_ok rfl rfl rfl ?_)
   have fin:=R9.fin (w0:=w) (L:=L) (s':=cls[s]) (undrew hy3) (Nat.le_refl _) (hb') ownP ownQ ownK
   refine And.intro rfl (And.intro rfl (And.intro (own_cells4 ownK) (And.intro (.inr (below_of_grown hy3 (grown_sets _ _ 0 _) (fun k hk=>by cases hk; exact Nat.le_refl _))) ?_)))
   exact y_endx (_,_,_) (by kernel_rfl) ⟨rfl,rfl,rfl,rfl,trivial⟩ fin
  ·
   refine Exists.intro m (Exists.intro m (And.intro rfl (And.intro rfl (And.intro (Nat.le_refl _) (And.intro rfl (And.intro rfl (And.intro (by show 1 * _ ≤ _; omega) (And.intro (by omega) ?_))))))))
   have hy2:=hy1.alloc (hy1.size) (.cells (madeCells #[.bool false] m) 4)
   refine And.intro (.inr hy2) ?_
   replace ownK : OwnB _ _ _ _:=ownK.kept (row:=none) (grown_alloc _ (.cells (madeCells #[.bool false] m) 4)) (by simp)
   have ownQ:=own_makeG ((w.drew).alloc (.cells #[Vi 0,Vi 0,.slice none 0 0,.slice none 0 0] 25)) base 4 m (.bool false) (Nat.le_trans hb' hy1.size) (by omega)
   refine y_one 8 (by kernel_rfl) (y_op 8 tab_ok rfl rfl rfl rfl ?_)
   refine Exists.intro m (Exists.intro m (And.intro rfl (And.intro rfl (And.intro (Nat.le_refl _) (And.intro rfl (And.intro rfl (And.intro (by show 24 * _ ≤ _; omega) (And.intro (by omega) ?_))))))))
   have hy3:=hy2.alloc (hy2.size) (.cells (madeCells #[.slice none 0 0] m) 35)
   refine And.intro (.inr hy3) ?_
   replace ownK : OwnB _ _ _ _:=ownK.kept (row:=none) (grown_alloc _ (.cells (madeCells #[.slice none 0 0] m) 35)) (by simp)
   replace ownQ:=ownQ.alloc (.cells (madeCells #[.slice none 0 0] m) 35)
   have ownP:=own_makeG (((w.drew).alloc (.cells #[Vi 0,Vi 0,.slice none 0 0,.slice none 0 0] 25)).alloc (.cells (madeCells #[.bool false] m) 4)) base 35 m (.slice none 0 0) (Nat.le_trans hb' hy2.size) (by omega)
   refine yT 11 tab_ok rfl (by kernel_rfl) hy3 rfl (rfl) ?_
   refine y_one 13 (by kernel_rfl) (y_op0 13 tab_ok rfl rfl rfl ?_)
   have fin:=R9.fin (w0:=w) (L:=L) (s':=cls[s]) (undrew hy3) (Nat.le_refl _) (hb') ownP ownQ ownK
   refine And.intro rfl (And.intro rfl (And.intro (own_cells4 ownK) (And.intro (.inr (below_of_grown hy3 (grown_sets _ _ 0 _) (fun k hk=>by cases hk; exact Nat.le_refl _))) ?_)))
   exact y_endx (_,_,_) (by kernel_rfl) ⟨rfl,rfl,rfl,rfl,trivial⟩ fin
end Go.Proofs.YthcoppfiahnpoaaGreat
namespace Go.Proofs.YthcoppfiahnpoaaGreat
open Go Sym
structure ShI (base : Nat) (w : World) (P Q m : Nat) (cls : List Int) (next : List (List Int)) (fin : List Bool) (L i : Nat) (vs : List Value) (sn : List (List Int)) (sf : List Bool) : Prop where
 p : w.ownsRow base 35 1 (Vs P m m) m vs
 q : w.ownsRow base 4 1 (Vs Q m m) m (bools sf)
 lv : vs.length = m
 ln : sn.length = m
 lf : sf.length = m
 done : ∀ v : Nat,v < m → (∃ j,j < i ∧ cls.getD j 0 = (v : Int)) → (∃ j : Nat,j < i ∧ cls.getD j 0 = (v : Int) ∧ sn.getD v [] = (List.range L).map (fun c=>clsOf cls (tgtM next j c)) ∧ sf.getD v false = fin.getD j false) ∧
  (∃ g c,vs[v]? = some (Vs g L c) ∧ w.ownsRow base 3 1 (Vs g L c) L (ints (sn.getD v [])))
 todo : ∀ v : Nat,v < m → (∀ j,j < i → cls.getD j 0 ≠ (v : Int)) → vs[v]? = some (.slice none 0 0)
section
variable {base : Nat} {w w' : World} {P Q m : Nat} {cls : List Int} {next : List (List Int)} {fin : List Bool} {L i : Nat} {vs : List Value} {sn : List (List Int)} {sf : List Bool}
theorem ShI.kept (h : ShI base w P Q m cls next fin L i vs sn sf) (hg : w.grownBy w' none) : ShI base w' P Q m cls next fin L i vs sn sf:=
 ⟨h.p.kept hg (none_or _),h.q.kept hg (none_or _),h.lv,h.ln,h.lf,fun v hv ha=>by
  obtain ⟨h1,g,c,h2,h3⟩:=h.done v hv ha
  exact ⟨h1,g,c,h2,h3.kept hg (none_or _)⟩,h.todo⟩
theorem ShI.skip (h : ShI base w P Q m cls next fin L i vs sn sf) (hs : cls.getD i 0 < 0 ∨ ∃ v : Nat,v < m ∧ cls.getD i 0 = (v : Int) ∧ ∃ j,j < i ∧ cls.getD j 0 = (v : Int)) : ShI base w P Q m cls next fin L (i + 1) vs sn sf:=by
 refine ⟨h.p,h.q,h.lv,h.ln,h.lf,fun v hv ha=>?_,fun v hv ha=>h.todo v hv fun j hj=>ha j (by omega)⟩
 have ha' : ∃ j,j < i ∧ cls.getD j 0 = (v : Int):=by
  obtain ⟨j,hj,e⟩:=ha
  rcases Nat.lt_or_ge j i with h1 | h1
  ·exact ⟨j,h1,e⟩
  ·obtain rfl : j = i:=by omega
   rcases hs with h2 | ⟨v',_,e2,j',hj',e3⟩
   ·omega
   ·obtain rfl : v' = v:=by omega
    exact ⟨j',hj',e3⟩
 obtain ⟨⟨j,h1,h2,h3,h4⟩,h5⟩:=h.done v hv ha'
 exact ⟨⟨j,by omega,h2,h3,h4⟩,h5⟩
theorem ShI.put (h : ShI base w P Q m cls next fin L i vs sn sf) {c g cg : Nat} (hc : c < m) (hci : cls.getD i 0 = (c : Int)) {row : List Int} (hrow : row = (List.range L).map (fun k=>clsOf cls (tgtM next i k)))
  (hown : w.ownsRow base 3 1 (Vs g L cg) L (ints row)) (hnew : ∀ j,j < i → cls.getD j 0 ≠ (c : Int)) :
  ShI base ((w.setCell ⟨P,0 + c,none⟩ (Vs g L cg)).drew.setCell ⟨Q,0 + c,none⟩ (.bool (fin.getD i false))) P Q m cls next fin L (i + 1) (vs.set c (Vs g L cg)) (sn.set c row) (sf.set c (fin.getD i false)):=by
 rw [Nat.zero_add]
 obtain ⟨p1,gp⟩:=World.ownsRow.stored h.p c (Vs g L cg)
 have hd : (w.setCell ⟨P,c,none⟩ (Vs g L cg)).grownBy (w.setCell ⟨P,c,none⟩ (Vs g L cg)).drew none:=⟨rfl,rfl,rfl,Nat.le_refl _,fun _ _ _=>rfl⟩
 have q1:=(h.q.kept gp (own_ne h.p h.q (by decide))).kept hd (none_or _)
 obtain ⟨q2,gq⟩:=World.ownsRow.stored q1 c (.bool (fin.getD i false))
 have p2:=(p1.kept hd (none_or _)).kept gq (own_ne q1 (p1.kept hd (none_or _)) (by decide))
 have keepI : ∀ {v : Value} {n : Nat} {xs : List Value},w.ownsRow base 3 1 v n xs → ((w.setCell ⟨P,c,none⟩ (Vs g L cg)).drew.setCell ⟨Q,c,none⟩ (.bool (fin.getD i false))).ownsRow base 3 1 v n xs:=fun hv=>
  ((hv.kept gp (own_ne h.p hv (by decide))).kept hd (none_or _)).kept gq (own_ne q1 ((hv.kept gp (own_ne h.p hv (by decide))).kept hd (none_or _)) (by decide))
 have ex : ∀ {v : Nat},v ≠ c → (vs.set c (Vs g L cg))[v]? = vs[v]?:=fun hv=>List.getElem?_set_ne (fun e=>hv e.symm)
 refine ⟨p2,?_,by simp [h.lv],by simp [h.ln],by simp [h.lf],fun v hv ha=>?_,fun v hv ha=>?_⟩
 ·rw [show bools (sf.set c (fin.getD i false)) = (bools sf).set c (.bool (fin.getD i false)) from List.map_set ..]; exact q2
 ·by_cases e : v = c
  ·subst e
   refine ⟨⟨i,Nat.lt_succ_self _,hci,?_,?_⟩,g,cg,?_,?_⟩
   ·rw [← hrow]; simp [List.getD_eq_getElem?_getD,h.ln,hc]
   ·rw [getD_setB,if_pos ⟨rfl,by rw [h.lf]; exact hc⟩]
   ·simp [h.lv,hc]
   ·have : (sn.set v row).getD v [] = row:=by simp [List.getD_eq_getElem?_getD,h.ln,hc]
    rw [this]; exact keepI hown
  ·have ha' : ∃ j,j < i ∧ cls.getD j 0 = (v : Int):=by
    obtain ⟨j,hj,ej⟩:=ha
    rcases Nat.lt_or_ge j i with h1 | h1
    ·exact ⟨j,h1,ej⟩
    ·obtain rfl : j = i:=by omega
     omega
   obtain ⟨⟨j,h1,h2,h3,h4⟩,g',c',h5,h6⟩:=h.done v hv ha'
   have hsn : (sn.set c row).getD v [] = sn.getD v []:=by simp [List.getD_eq_getElem?_getD,List.getElem?_set_ne (fun e2=>e e2.symm)]
   refine ⟨⟨j,by omega,h2,by rw [hsn]; exact h3,?_⟩,g',c',by rw [ex e]; exact h5,by rw [hsn]; exact keepI h6⟩
   rw [getD_setB,if_neg (fun hh=>e hh.1.symm)]; exact h4
 ·have e : v ≠ c:=fun e=>ha i (Nat.lt_succ_self _) (by rw [e]; exact hci)
  rw [ex e]
  exact h.todo v hv fun j hj=>ha j (by omega)
end
theorem ShI.end {base : Nat} {w : World} {P Q m : Nat} {cls : List Int} {next : List (List Int)} {fin : List Bool} {L : Nat} {vs : List Value} {sn : List (List Int)} {sf : List Bool} (h : ShI base w P Q m cls next fin L next.length vs sn sf) (hc : Cls L next fin cls m) :
  sn.length = m ∧ SmallI L next fin cls sn sf:=by
 refine ⟨h.ln,⟨by rw [h.lf,h.ln],fun v hv=>?_⟩⟩
 have hv' : v < m:=by rw [← h.ln]; exact hv
 obtain ⟨i,h1,h2⟩:=hc.hit v hv'
 obtain ⟨⟨j,a,b,c,d⟩,_⟩:=h.done v hv' ⟨i,h1,h2⟩
 refine ⟨j,a,b,?_,d⟩
 have : sn.getD v [] = sn[v]:=by simp [List.getD_eq_getElem?_getD,hv]
 rw [← this]; exact c
structure MaxI (cls : List Int) (i : Nat) (count : Int) : Prop where
 pos : 0 ≤ count
 up : ∀ j,j < i → cls.getD j 0 + 1 ≤ count
 at' : count = 0 ∨ ∃ j,j < i ∧ cls.getD j 0 + 1 = count
theorem MaxI.end {L : Nat} {next : List (List Int)} {fin : List Bool} {cls : List Int} {m : Nat} (hc : Cls L next fin cls m) {count : Int} (h : MaxI cls next.length count) : count = m:=by
 have h1 : count ≤ m:=by
  rcases h.at' with h0 | ⟨j,hj,e⟩
  ·omega
  ·have:=hc.top j hj; omega
 rcases Nat.eq_zero_or_pos m with h0 | h0
 ·have:=h.pos; omega
 ·obtain ⟨i,a,b⟩:=hc.hit (m - 1) (by omega)
  have:=h.up i a
  omega
theorem MaxI.step {cls : List Int} {i : Nat} {count x : Int} (h : MaxI cls i count) (hx : cls.getD i 0 = x) : MaxI cls (i + 1) (if x + 1 > count then x + 1 else count):=by
 have:=h.pos
 refine ⟨by split <;> omega,fun j hj=>?_,?_⟩
 ·rcases Nat.lt_or_ge j i with h1 | h1
  ·have:=h.up j h1
   split <;> omega
  ·obtain rfl : j = i:=by omega
   split <;> omega
 ·split
  ·exact .inr ⟨i,Nat.lt_succ_self _,by omega⟩
  ·rcases h.at' with h0 | ⟨j,hj,e⟩
   ·exact .inl h0
   ·exact .inr ⟨j,by omega,e⟩
end Go.Proofs.YthcoppfiahnpoaaGreat
namespace Go.Proofs.YthcoppfiahnpoaaGreat
open Go Sym
theorem fillB (a : Bool) (z : Value) : Instr.fill (fun i=>some (i * 1,1)) (madeCells #[z] 1) [(0,.bool a)] = some #[.bool a]:=by
 have h : (Value.bool a).cells = #[.bool a]:=rfl
 simp [Instr.fill,madeCells,h,Array.range,Array.foldl]
 rfl
theorem CopyI.below {base : Nat} {w w' : World} {b3 : Nat} {L s : Int} {rows : List (List Int)} {fin : List Bool} (h : CopyI base w b3 L s rows fin) (hb : RowKit.Below w.heap.size w w') : CopyI base w' b3 L s rows fin:=by
 obtain ⟨vn,ve,us,ho,hve,hvn,hlu,hus⟩:=h.mem
 have hg:=grown_below hb
 exact ⟨h.b,vn,ve,us,ho.keep hb ho.lt,hve.kept hg (none_or _),hvn.kept hg (none_or _),hlu,fun i hi=>by
  obtain ⟨u,h1,h2,h3⟩:=hus i hi
  exact ⟨u,h1,h2.kept hg (none_or _),h3⟩⟩
theorem CopyI.add_row {base : Nat} {w w4 : World} {b3 : Nat} {L s : Int} {vn ve v' : Value} {us : List Value} {rows : List (List Int)} {fin : List Bool} {g : Option Addr} {n c : Nat} {row : List Int} (hb : base ≤ b3) (ho : OwnB w b3 25 [Vi L,Vi s,vn,ve])
  (hve : w.ownsRow base 4 1 ve fin.length (fin.map .bool)) (hvn : w.ownsRow base 35 1 vn rows.length us) (hlu : us.length = rows.length)
  (hus : ∀ i (h : i < rows.length),∃ u,us[i]? = some u ∧ w.ownsRow base 3 1 u rows[i].length (rows[i].map (Value.int .i64)) ∧ ∀ x ∈ rows[i],I64 x)
  (hrow : w.ownsRow base 3 1 (.slice g n c) row.length (row.map (Value.int .i64))) (hI : ∀ x ∈ row,I64 x)
  (hgr : (w.alloc (.cells #[.slice g n c] 35)).grownBy w4 vn.ownBlock) (h4 : w4.ownsRow base 35 1 v' (rows.length + 1) (us ++ [.slice g n c])) :
  OwnB w4 b3 25 [Vi L,Vi s,vn,ve] ∧ CopyI base (w4.setCell ⟨b3,2,none⟩ v') b3 L s (rows ++ [row]) fin:=by
 have hvn3:=hvn.alloc (.cells #[.slice g n c] 35)
 have hve3:=hve.alloc (.cells #[.slice g n c] 35)
 have hu3 : ∀ u q xs,w.ownsRow base 3 1 u q xs → w4.ownsRow base 3 1 u q xs:=fun u q xs h=>(h.alloc (.cells #[.slice g n c] 35)).kept hgr (own_ne hvn3 (h.alloc _) (by decide))
 have ho3 : OwnB (w.alloc (.cells #[.slice g n c] 35)) b3 25 [Vi L,Vi s,vn,ve]:=ho.kept (row:=none) (grown_alloc _ _) (by simp)
 have ho4:=ho3.kept hgr (own_neB hvn3 ho3 (by decide))
 have hve4:=hve3.kept hgr (own_ne hvn3 hve3 (by decide))
 have hg5:=grown_set w4 b3 2 v'
 have hnb : ∀ {e q : Nat} {v : Value} {xs : List Value},w4.ownsRow base e 1 v q xs → e ≠ 25 → v.ownBlock = none ∨ v.ownBlock ≠ some b3:=fun h he=>.inr (fun hh=>own_neB h ho4 he hh.symm)
 refine ⟨ho4,hb,v',ve,us ++ [.slice g n c],ho4.set 2 _,hve4.kept hg5 (hnb hve4 (by decide)),?_,?_,?_⟩
 ·have:=h4.kept hg5 (hnb h4 (by decide))
  simpa using this
 ·simp [hlu]
 ·intro i hi
  rcases Nat.lt_or_ge i rows.length with hlt | hge
  ·obtain ⟨u,hu1,hu2,hu3'⟩:=hus i hlt
   refine ⟨u,?_,?_,?_⟩
   ·rw [List.getElem?_append_left (by omega)]; exact hu1
   ·have e1:=(hu3 _ _ _ hu2).kept hg5 (hnb (hu3 _ _ _ hu2) (by decide))
    rw [List.getElem_append_left hlt]; exact e1
   ·rw [List.getElem_append_left hlt]; exact hu3'
  ·obtain rfl : i = rows.length:=by simp at hi; omega
   refine ⟨.slice g n c,?_,?_,?_⟩
   ·rw [List.getElem?_append_right (by omega)]; simp [hlu]
   ·have e1:=(hu3 _ _ _ hrow).kept hg5 (hnb (hu3 _ _ _ hrow) (by decide))
    simpa using e1
   ·simpa using hI
theorem CopyI.add_fin {base : Nat} {w w4 : World} {b3 : Nat} {L s : Int} {vn ve v' : Value} {us : List Value} {rows : List (List Int)} {fin : List Bool} {x : Bool} (hb : base ≤ b3) (ho : OwnB w b3 25 [Vi L,Vi s,vn,ve])
  (hve : w.ownsRow base 4 1 ve fin.length (fin.map .bool)) (hvn : w.ownsRow base 35 1 vn rows.length us) (hlu : us.length = rows.length)
  (hus : ∀ i (h : i < rows.length),∃ u,us[i]? = some u ∧ w.ownsRow base 3 1 u rows[i].length (rows[i].map (Value.int .i64)) ∧ ∀ x ∈ rows[i],I64 x)
  (hgr : (w.alloc (.cells #[.bool x] 4)).grownBy w4 ve.ownBlock) (h4 : w4.ownsRow base 4 1 v' (fin.length + 1) (fin.map .bool ++ [.bool x])) :
  OwnB w4 b3 25 [Vi L,Vi s,vn,ve] ∧ CopyI base (w4.setCell ⟨b3,3,none⟩ v') b3 L s rows (fin ++ [x]):=by
 have hve3:=hve.alloc (.cells #[.bool x] 4)
 have hvn3:=hvn.alloc (.cells #[.bool x] 4)
 have hu3 : ∀ u q xs,w.ownsRow base 3 1 u q xs → w4.ownsRow base 3 1 u q xs:=fun u q xs h=>(h.alloc (.cells #[.bool x] 4)).kept hgr (own_ne hve3 (h.alloc _) (by decide))
 have ho3 : OwnB (w.alloc (.cells #[.bool x] 4)) b3 25 [Vi L,Vi s,vn,ve]:=ho.kept (row:=none) (grown_alloc _ _) (by simp)
 have ho4:=ho3.kept hgr (own_neB hve3 ho3 (by decide))
 have hvn4:=hvn3.kept hgr (own_ne hve3 hvn3 (by decide))
 have hg5:=grown_set w4 b3 3 v'
 have hnb : ∀ {e q : Nat} {v : Value} {xs : List Value},w4.ownsRow base e 1 v q xs → e ≠ 25 → v.ownBlock = none ∨ v.ownBlock ≠ some b3:=fun h he=>.inr (fun hh=>own_neB h ho4 he hh.symm)
 refine ⟨ho4,hb,vn,v',us,ho4.set 3 _,?_,hvn4.kept hg5 (hnb hvn4 (by decide)),hlu,fun i hi=>?_⟩
 ·have:=h4.kept hg5 (hnb h4 (by decide))
  simpa using this
 ·obtain ⟨u,h1,h2,h3⟩:=hus i hi
  exact ⟨u,h1,(hu3 _ _ _ h2).kept hg5 (hnb (hu3 _ _ _ h2) (by decide)),h3⟩
set_option maxHeartbeats 1000000 in
theorem shrunk_r38 {base : Nat} {w0 w : World} {M N K b3 k nr m Q' : Nat} {L s' : Int} {vP va vb : Value} {rows : List Int} {sf : List Bool} {rs : List (List Int)} {fs : List Bool} (h0 : RowKit.Below w0.heap.size w0 w) (hb : base = w0.heap.size)
  (hk : OwnB w K 25 [Vi L,Vi s',vP,Vs Q' m m]) (hq' : w.ownsRow base 4 1 (Vs Q' m m) m (bools sf) ∨ ∀ j (h : j < sf.length),w.cell? ⟨Q',0 + j,none⟩ = some (.bool sf[j]))
  (hr : Sl w va rows PInt) (hrn : rows.length = nr) (hkr : k < rows.length) {r : Nat} (hrv : rows[k] = (r : Int)) (hrm : r < m) (hsf : sf.length = m) (hC : CopyI base w b3 L 0 rs fs) (hb3 : w0.heap.size ≤ b3) (hfs : fs.length ≤ 100000000)
  {Q : Exit → Act → World → Prop} {a : Act} {ops : Array Oper} {id : Nat} (hops : Sym.regionOf Tryz.f47.body 38 = some (id,ops))
  (hS : St Tryz.f47.ntmps a [(1,Vp M),(2,Vp N),(6,Vp K),(11,va),(12,vb),(13,Vp b3),(14,Vi k)])
  (hq : ∀ a' w',St Tryz.f47.ntmps a' [(1,Vp M),(2,Vp N),(6,Vp K),(11,va),(12,vb),(13,Vp b3),(14,Vi k)] → RowKit.Below w0.heap.size w0 w' ∧ CopyI base w' b3 L 0 rs (fs ++ [sf.getD r false]) → Q .normal a' w') : (Code.region id ops true).wp Tryz.prog Q a w:=by
 cases hops
 refine any_cut 11 [(1,Vp M),(2,Vp N),(6,Vp K),(11,va),(12,vb),(13,Vp b3),(14,Vi k)] (fun w'=>RowKit.Below w0.heap.size w0 w' ∧ CopyI base w' b3 L 0 rs (fs ++ [sf.getD r false])) mixed hS ?_ hq
 have hy : RowKit.Below w.drew.heap.size w.drew w.drew:=RowKit.Below.refl _ _
 have hbb : w0.heap.size ≤ base:=by omega
 replace hb : base ≤ w0.heap.size:=by omega
 obtain ⟨vn',ve',us,ho,hve,hvn,hlu,hus⟩:=hC.mem
 have hbw : w0.heap.size ≤ w.heap.size:=h0.size
 obtain ⟨ar,br,orr,cr,rfl,r1,r2,r3,r4⟩:=hr
 obtain rfl:=r1 (by omega)
 obtain ⟨u,hu,rfl,-⟩:=r4 k hkr
 rw [hrv] at hu
 have hrs : r < sf.length:=by omega
 have hcq : w.cell? ⟨Q',0 + r,none⟩ = some (.bool sf[r]):=by
  rcases hq' with h | h
  ·rw [Nat.zero_add,World.ownsRow.cellAt h r (by omega)]
   simp [bools,hrs]
  ·exact h r hrs
 obtain ⟨ge,ne,ce,hve'⟩:=own_form hve
 subst hve'
 refine yT 0 tab_ok rfl (by kernel_rfl) hy rfl (rfl) ?_
 refine yL 1 tab_ok rfl (by kernel_rfl) hy rfl rfl (ho.cell (i:=3) rfl) ?_
 refine yT 2 tab_ok rfl (by kernel_rfl) hy rfl (rfl) ?_
 refine yL 3 tab_ok rfl (by kernel_rfl) hy rfl rfl (hk.cell (i:=3) rfl) ?_
 refine yT 4 tab_ok rfl (by kernel_rfl) hy rfl (rfl) ?_
 refine yT 5 tab_ok rfl (by kernel_rfl) hy rfl (rfl) ?_
 refine yT 6 tab_ok rfl (by kernel_rfl) hy rfl (Exists.intro _ (And.intro (rfl) (And.intro (hkr) rfl))) ?_
 refine yL 7 tab_ok rfl (by kernel_rfl) hy rfl rfl (hu) ?_
 refine yT 8 tab_ok rfl (by kernel_rfl) hy rfl (Exists.intro _ (And.intro (rfl) (And.intro (hrm) rfl))) ?_
 refine yL 9 tab_ok rfl (by kernel_rfl) hy rfl rfl (hcq) ?_
 refine y_one 10 (by kernel_rfl) (y_op 10 tab_ok rfl rfl rfl rfl ?_)
 refine Exists.intro [(0,.bool (sf[r]))] (Exists.intro #[.bool (sf[r])] (And.intro (And.intro rfl rfl) (And.intro (by decide) (And.intro (fillB _ _) ?_))))
 have hy3:=hy.alloc (Nat.le_refl _) (.cells #[.bool sf[r]] 4)
 refine And.intro (.inr hy3) ?_
 have hve3:=hve.drew.alloc (.cells #[.bool sf[r]] 4)
 have ask : AppAsk (w.drew.alloc (.cells #[.bool sf[r]] 4)) ⟨4,.bool,1,1,.bool false⟩ (.slice ge ne ce) fs.length (fs.map .bool) (Vs w.drew.heap.size 1 1) 1 [.bool sf[r]] base:=
  ⟨hve3,.inr ⟨_,0,_,rfl,cell_alloc_new rfl,trivial⟩,rfl,(by simp [Value.oneCell']),(by omega),(by show (fs.length + 1) * 1 ≤ _; omega),Nat.le_trans (Nat.le_trans hb hbw) hy3.size⟩
 refine y_one 11 (by kernel_rfl) (y_op 11 tab_ok rfl rfl rfl rfl ?_)
 refine Exists.intro _ (Exists.intro _ (Exists.intro _ (Exists.intro _ (Exists.intro _ (And.intro (ask) (And.intro (fun _ h=>h.symm) (And.intro (by decide) ?_)))))))
 rintro v' w4 hown4 hgr4 - -
 refine And.intro (.inl (by kernel_rfl)) ?_
 refine y_one 12 (by kernel_rfl) (y_op 12 tab_ok rfl rfl rfl rfl ?_)
 refine And.intro (.inl (by kernel_rfl)) ?_
 refine y_one 13 (by kernel_rfl) (y_op0 13 tab_ok rfl rfl rfl ?_)
 obtain ⟨g4,n4,c4,hv4⟩:=own_form hown4
 subst hv4
 obtain ⟨ho4,hC4⟩:=CopyI.add_fin (w:=w.drew) hC.b ho hve.drew hvn.drew hlu (fun i hi=>by obtain ⟨u,h1,h2,h3⟩:=hus i hi; exact ⟨u,h1,h2.drew,h3⟩) hgr4 hown4
 refine And.intro rfl (And.intro rfl (And.intro ⟨_,ho4.cell (i:=3) rfl⟩ (And.intro (ho4.free 3) (And.intro (.inl (by kernel_rfl)) ?_))))
 rw [show sf.getD r false = sf[r] from getD_lt hrs]
 refine y_end (by kernel_rfl) ⟨rfl,rfl,rfl,rfl,rfl,rfl,rfl,trivial⟩ (show RowKit.Below w0.heap.size w0 (w4.setCell ⟨b3,3,none⟩ (.slice g4 n4 c4)) ∧ CopyI base (w4.setCell ⟨b3,3,none⟩ (.slice g4 n4 c4)) b3 L 0 rs (fs ++ [sf[r]]) from ⟨?_,hC4⟩)
 have e1 : RowKit.Below w0.heap.size w0 (w.drew.alloc (.cells #[.bool sf[r]] 4)):=below_trans h0 (undrew hy3)
 have e2:=below_of_grown e1 hgr4 (fun q hq=>Nat.le_trans hbb (hve3.lt q hq).1)
 exact below_of_grown e2 (grown_set _ b3 3 _) (fun q hq=>by cases hq; exact hb3)
end Go.Proofs.YthcoppfiahnpoaaGreat
