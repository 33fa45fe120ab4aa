/- AutoHides holds of the program: the walks of its reference, its law and the program's Hide, and the card. -/
import Derived.Shelf.SlSortCmp.WholeK
import Derived.Shelf.SlSortCmp.NoneTotal
import Derived.Test.YtndldmojkpjgoaaGreatDoorVk5
set_option maxRecDepth 100000
namespace Go.Proofs.YtndldmojkpjgoaaGreatDoor
section
open Go Sym
theorem xj : bk Tryz.prog 24 = true:=by kernel_rfl
abbrev RM (xs : List Nat) (s j : Nat) : Prop:=bitP (gt xs s) j
structure WarI (L n : Nat) (next : List (List Int)) (hid : List Bool) (k : Nat) (xs : List Nat) : Prop where
 len : xs.length = n
 lt : ∀ s,s < n → gt xs s < 16384
 snd : ∀ s j,s < n → RM xs s j → HRun L next hid (fun i=>i = s) [] j
 self : ∀ s,s < n → RM xs s s
 edge : ∀ s c t : Nat,s < n → c < L → hidB hid c = true → tgtM next (s : Int) c = (t : Int) → RM xs s t
 tr : ∀ b s j,b < k → s < n → RM xs s b → RM xs b j → RM xs s j
section
variable {L n : Nat} {next : List (List Int)} {hid : List Bool} {k : Nat} {xs ys : List Nat}
theorem WarI.more (h : WarI L n next hid k xs) (hk : k < n) (hl : ys.length = n) (hy : ∀ s,s < n → gt ys s = if (gt xs s).testBit k = true then gt xs s ||| gt xs k else gt xs s) : WarI L n next hid (k + 1) ys:=by
 have key : ∀ s j,s < n → (RM ys s j ↔ RM xs s j ∨ (RM xs s k ∧ RM xs k j)):=fun s j hs=>by
  show bitP (gt ys s) j ↔ _;rw [hy s hs]
  split
  ·rename_i e;rw [aho];exact ⟨fun h=>h.imp id fun h2=>⟨e,h2⟩,fun h=>h.imp id fun h2=>h2.2⟩
  ·rename_i e;exact ⟨.inl,fun h=>h.elim id fun h2=>(e h2.1).elim⟩
 refine ⟨hl,fun s hs=>?_,fun s j hs hr=>?_,fun s hs=>(key s s hs).2 (.inl (h.self s hs)),fun s c t hs hc hh ht=>(key s t hs).2 (.inl (h.edge s c t hs hc hh ht)),fun b s j hb hs h1 h2=>?_⟩
 ·rw [hy s hs]
  split
  ·exact ait (h.lt s hs) (h.lt k hk)
  ·exact h.lt s hs
 ·rcases (key s j hs).1 hr with h1 | ⟨h1,h2⟩
  ·exact h.snd s j hs h1
  ·exact HCl.least HRun.closed (fun i hi=>hi ▸ h.snd s k hs h1) (h.snd k j hk h2)
 ·have hbn : b < n:=by omega
  rcases Nat.lt_or_ge b k with hbk | hbk
  ·refine (key s j hs).2 ?_
   rcases (key s b hs).1 h1 with h1 | ⟨h1,h1'⟩ <;> rcases (key b j hbn).1 h2 with h2 | ⟨h2,h2'⟩
   ·exact .inl (h.tr b s j hbk hs h1 h2)
   ·exact .inr ⟨h.tr b s k hbk hs h1 h2,h2'⟩
   ·exact .inr ⟨h1,h.tr b k j hbk hk h1' h2⟩
   ·exact .inr ⟨h1,h2'⟩
  ·obtain rfl : b = k:=by omega
   refine (key s j hs).2 ?_;have h1 : RM xs s b:=((key s b hs).1 h1).elim id (·.1);have h2 : RM xs b j:=((key b j hbn).1 h2).elim id (·.2);exact .inr ⟨h1,h2⟩
theorem WarI.done (h : WarI L n next hid n xs) (hb : ∀ s c,s < n → c < L → tgtM next (s : Int) c < n) {s j : Nat} (hs : s < n) : RM xs s j ↔ HRun L next hid (fun i=>i = s) [] j:=by
 refine ⟨h.snd s j hs,fun hr=>?_⟩
 have hcl : HCl L next hid (fun j=>j < n ∧ RM xs s j):=fun i c t ⟨hi,hri⟩ hc hh ht=>by
  rw [dv (Int.natCast_nonneg i)] at ht
  have:=hb i c hi hc
  exact ⟨by omega,h.tr i s t hi hs hri (h.edge i c t hi hc hh ht)⟩
 exact (HCl.least hcl (fun i hi=>by subst hi; exact ⟨hs,h.self i hs⟩) hr).2
def P1 (next : List (List Int)) (hid : List Bool) (s k j : Nat) : Prop:=s = j ∨ ∃ c,c < k ∧ hidB hid c = true ∧ tgtM next (s : Int) c = (j : Int)
theorem WarI.start (hl : xs.length = n) (hlt : ∀ s,s < n → gt xs s < 16384) (hx : ∀ s j,s < n → (RM xs s j ↔ P1 next hid s L j)) : WarI L n next hid 0 xs:=by
 refine ⟨hl,hlt,fun s j hs hr=>?_,fun s hs=>(hx s s hs).2 (.inl rfl),fun s c t hs hc hh ht=>(hx s t hs).2 (.inr ⟨c,hc,hh,ht⟩),fun b s j hb=>by omega⟩
 rcases (hx s j hs).1 hr with rfl | ⟨c,hc,hh,ht⟩
 ·exact HRun.self rfl
 ·exact HRun.closed s c j (HRun.self rfl) hc hh (by rw [dv (Int.natCast_nonneg s)]; exact ht)
end
theorem ru : ∀ (xs : List Nat) (s k : Nat),s < xs.length → k < 63 → (xs.flatMap setC)[s * 63 + k]? = some (Vu (if k = 0 then gt xs s else 0))
 | [],_,_,h,_=>by simp at h
 | x :: xs,0,k,_,hk=>by
   rw [List.flatMap_cons,Nat.zero_mul,Nat.zero_add,List.getElem?_append_left (by rw [jx]; exact hk),kp hk];rfl
 | x :: xs,s + 1,k,h,hk=>by
   rw [List.flatMap_cons,List.getElem?_append_right (by rw [jx]; omega),jx,show (s + 1) * 63 + k - 63 = s * 63 + k by omega];exact ru xs s k (by simpa using h) hk
theorem ae9 (xs : List Nat) : (xs.flatMap setC).length = xs.length * 63:=by
 induction xs with
 | nil=>rfl
 | cons x xs ih=>rw [List.flatMap_cons,List.length_append,ih,jx,List.length_cons]; omega
theorem rt : ∀ (xs : List Nat) (s y : Nat),(xs.flatMap setC).set (s * 63) (Vu y) = (xs.set s y).flatMap setC
 | [],_,_=>by simp
 | x :: xs,0,y=>by
   rw [List.set_cons_zero,List.flatMap_cons,List.flatMap_cons,Nat.zero_mul];rfl
 | x :: xs,s + 1,y=>by
   rw [List.set_cons_succ,List.flatMap_cons,List.flatMap_cons,List.set_append_right _ _ (by rw [jx]; omega),jx,show (s + 1) * 63 - 63 = s * 63 by omega,rt xs s y]
theorem ac6 (n : Nat) : (madeCells (setC 0).toArray (n * 63)).toList = (List.replicate n 0).flatMap setC:=by
 have h1 : ∀ x ∈ (madeCells (setC 0).toArray (n * 63)).toList,x = Vu 0:=fun x hx=>by
  simp only [madeCells,Array.toList_map,List.mem_map] at hx;obtain ⟨i,-,rfl⟩:=hx;have hlt : i % (setC 0).toArray.size < 63:=Nat.mod_lt _ (by decide)
  have:=kp (x:=0) hlt
  rw [getElem!_def];simp only [List.getElem?_toArray,this];simp
 have h2 : ∀ x ∈ (List.replicate n 0).flatMap setC,x = Vu 0:=fun x hx=>by
  obtain ⟨y,hy,hx⟩:=List.mem_flatMap.1 hx;obtain rfl:=(List.mem_replicate.1 hy).2;obtain ⟨i,hi,rfl⟩:=List.mem_iff_getElem.1 hx
  have:=kp (x:=0) (k:=i) (by rw [jx] at hi; exact hi)
  rw [List.getElem?_eq_getElem hi] at this
  simpa using this
 rw [List.eq_replicate_of_mem h1,List.eq_replicate_of_mem h2,Array.length_toList,size_madeCells,ae9,List.length_replicate]
abbrev oT (v : Value) (xs : List Nat) : Ow:=⟨v,56,63,xs.length,xs.flatMap setC⟩
section
variable {base : Nat} {w0 w : World} {l : List Ow}
theorem Hold.makeT (h : Hold base w0 w l) {n : Nat} (hn : n ≤ 9223372036854775807) : Hold base w0 (w.alloc (.cells (madeCells (setC 0).toArray (n * 63)) 56)) (oT (Vs w.heap.size n n) (List.replicate n 0) :: l):=by
 have h1:=h.lit (e:=56) (s:=63) (n:=n) (madeCells (setC 0).toArray (n * 63)) (by rw [size_madeCells]) hn;rw [ac6] at h1;rw [oT,List.length_replicate];exact h1
theorem acd {n s : Nat} (hs : s < n) : gt (List.replicate n 0) s = 0:=by unfold gt; rw [List.getD_eq_getElem?_getD,List.getElem?_replicate,if_pos hs]; rfl
theorem Hold.makeH (h : Hold base w0 w l) {n : Nat} (hn : n ≤ 9223372036854775807) : Hold base w0 (w.alloc (.cells (madeCells #[.slice none 0 0] n) 58)) (⟨Vs w.heap.size n n,58,1,n,List.replicate n (.slice none 0 0)⟩ :: l):=by
 have h1:=h.lit (e:=58) (s:=1) (n:=n) (madeCells #[.slice none 0 0] n) (by simp [madeCells]) hn;rw [toList_madeCells_one] at h1;exact h1
theorem qg (h : Hold base w0 w l) {i g n c : Nat} {xs : List Nat} (hi : l[i]? = some (oT (Vs g n c) xs)) {s : Nat} (hs : s < xs.length) : w.cell? ⟨g,0 + s * 63,none⟩ = some (Vu (gt xs s)) ∧ w.frozen? ⟨g,0 + s * 63,none⟩ = false ∧ ∀ k,k < 63 → w.cell? ⟨g,0 + s * 63 + k,none⟩ = some (Vu (if k = 0 then gt xs s else 0)):=by
 have hc:=fun k (hk : k < 63)=>h.r.cellV hi (ru xs s k hs hk);refine ⟨by have:=hc 0 (by decide); rwa [Nat.add_zero,if_pos rfl] at this,h.r.freeI hi _,fun k hk=>?_⟩
 have:=hc k hk
 rwa [← Nat.add_assoc] at this
theorem Hold.storeT (h : Hold base w0 w l) {i g n c : Nat} {xs : List Nat} (hi : l[i]? = some (oT (Vs g n c) xs)) (s y : Nat) : Hold base w0 (w.setCell ⟨g,0 + s * 63,none⟩ (Vu y)) (l.set i (oT (Vs g n c) (xs.set s y))):=by
 have h1:=h.store hi (s * 63) (Vu y);rw [rt] at h1;rw [oT,List.length_set];exact h1
end
set_option maxHeartbeats 4000000 in
theorem um (Ln : Nat) (s : Int) (vn ve vh : Value) (next : List (List Int)) (fin hid : List Bool) (w : World) (hm : Ma w Ln s next fin vn ve) (hs : Shape (Ln : Int) s next fin) (hn : next.length ≤ 14) (hL : Ln ≤ 1000) (hh : Sl w vh hid je) (hhl : hid.length = Ln) :
  Calls Tryz.prog 24 #[.agg #[Vi Ln,Vi s,vn,ve],vh] w fun e w'=>∃ (g : Nat) (us : List Value) (xs : List Nat),e = .returned (Vs g next.length next.length) ∧ us.length = next.length ∧ xs.length = next.length ∧ (∀ s,s < next.length → gt xs s < 16384 ∧ ∀ j,bitP (gt xs s) j ↔ HRun Ln next hid (fun i=>i = s) [] j) ∧ Hold w.heap.size w w' ((⟨Vs g next.length next.length,58,1,us.length,us⟩ : Ow) :: List.zipWith oC us xs):=by
 refine Sym.c8 (args:=[.agg #[Vi Ln,Vi s,vn,ve],vh]) Tryz.func24 rfl rfl rfl (fun a0 hS0=>?_);obtain ⟨an,cn,rfl⟩:=hm.n.len;obtain ⟨ah,ch,rfl⟩:=hh.len;refine wp_seq (bg (α:=Nat) (fun M=>[(1,.slice ah hid.length ch),(2,Vp M)]) (fun M w'=>OwnB w' M 25 [Vi Ln,Vi s,.slice an next.length cn,ve] ∧ RowKit.Below w.heap.size w w') af hS0 ?_ (fun M a w1 hS h=>?_))
 ·refine zB rfl ?_
  repeat refine zX rfl ?_
  exact aj ⟨_,⟨rfl,rfl,trivial⟩,OwnB.new _ _ _,ao _ _⟩
 obtain ⟨oM,hB⟩:=h;clear hS0;have hm1:=hm.keep hB;have hh1:=hh.keep hB (fun _ _ h=>h)
 have hcell : ∀ {u : World},RowKit.Below w1.heap.size w1 u → ∀ {k : Nat} (hk : k < hid.length),∃ b o,ah = some ⟨b,o,none⟩ ∧ u.cell? ⟨b,o + k,none⟩ = some (.bool hid[k]):=fun {u} hu {k} hk=>by
  obtain ⟨a,b,o,c,e,h1,-,-,h4⟩:=hh1.keep hu (fun _ _ h=>h);simp only [Value.slice.injEq] at e;obtain ⟨rfl,-,rfl⟩:=e;obtain ⟨x,hx,rfl⟩:=h4 k hk;exact ⟨b,o,h1 (by omega),hx⟩
 refine wp_seq (bg (α:=Nat) (fun g=>[(1,.slice ah hid.length ch),(2,Vp M),(5,Vs g next.length next.length)]) (fun g w'=>Hold w1.heap.size w1 w' [oT (Vs g next.length next.length) (List.replicate next.length 0)]) af hS ?_ (fun g a w2 hS h=>?_))
 ·have h2:=(Hold.start w1).makeT (n:=next.length) (by omega)
  repeat refine zX rfl ?_
  refine zL rfl (oM.cell (i:=2) rfl) ?_
  repeat refine zX rfl ?_
  refine b8 rfl rfl rfl ?_;refine exI next.length (anI rfl (anI rfl (anI (by show 504 * _ ≤ _; omega) (anI (by omega) ?_))))
  repeat refine zX rfl ?_
  exact aj ⟨_,⟨rfl,rfl,rfl,trivial⟩,h2⟩
 refine wp_seq (cut (F:=fun a' w'=>∃ xs : List Nat,St Tryz.f24.ntmps a' [(1,.slice ah hid.length ch),(2,Vp M),(5,Vs g next.length next.length)] ∧ Hold w1.heap.size w1 w' [oT (Vs g next.length next.length) xs] ∧ WarI Ln next.length next hid 0 xs) ?_ ?_)
 ·refine wp_seq (ai [(1,.slice ah hid.length ch),(2,Vp M),(5,Vs g next.length next.length),(20,.slice an next.length cn),(21,Vi next.length),(22,Vi (0 : Nat))] (· = w2) af hS ?_ (fun a w3 hS hw=>?_))
  ·repeat refine zX rfl ?_
   refine zL rfl ((oM.keep h.b oM.lt).cell (i:=2) rfl) ?_
   repeat refine zX rfl ?_
   exact aj ⟨⟨rfl,rfl,rfl,rfl,rfl,rfl,trivial⟩,rfl⟩
  subst hw;refine wp_block (cz hS (fun γ E wr=>∃ (i : Nat) (xs : List Nat),i ≤ next.length ∧ γ = next.length - i ∧ E = [(1,.slice ah hid.length ch),(2,Vp M),(5,Vs g next.length next.length),(20,.slice an next.length cn),(21,Vi next.length),(22,Vi i)] ∧ (xs.length = next.length ∧ (∀ s,s < next.length → gt xs s < 16384) ∧ (∀ s j,s < next.length → (RM xs s j ↔ (s < i ∧ P1 next hid s Ln j) ∨ (s = i ∧ False)))) ∧ Hold w1.heap.size w1 wr [oT (Vs g next.length next.length) xs]) next.length ⟨0,_,Nat.zero_le _,rfl,rfl,⟨by simp,fun s hs=>?_,fun s j hs=>?_⟩,h⟩ ?_)
  ·rw [acd hs]; decide
  ·rw [RM,acd hs];refine ⟨fun h=>?_,fun h=>h.elim (fun h=>by omega) (fun h=>h.2.elim)⟩;rw [bitP,Nat.zero_testBit] at h; cases h
  clear hS h;rintro γ E wr a1 ⟨i,xs,hi,rfl,rfl,⟨hxl,hxt,hxr⟩,h⟩ hS;refine wp_seq (ai [(1,.slice ah hid.length ch),(2,Vp M),(5,Vs g next.length next.length),(20,.slice an next.length cn),(21,Vi next.length),(22,Vi i),(23,.bool (decide (i < next.length)))] (· = wr) af hS ?_ (fun a w4 hS hw=>?_))
  ·refine zC rfl (co _ _) ?_
   repeat refine zX rfl ?_
   exact aj ⟨⟨rfl,rfl,rfl,rfl,rfl,rfl,rfl,trivial⟩,rfl⟩
  subst hw;refine wp_seq (cond hS rfl (fun hT=>wp_skip ?_) (fun hF=>?_))
  rotate_left
  ·have hge : i = next.length:=by have:=of_decide_eq_false hF; omega
   refine wp_exit ?_
   repeat first|refine bf ?_|refine ba ?_|refine az rfl ?_
   refine ⟨xs,hS.sub ⟨rfl,rfl,rfl,trivial⟩,h,WarI.start hxl hxt fun s j hs=>?_⟩;rw [hxr s j hs];exact ⟨fun h=>h.elim (·.2) (fun h=>h.2.elim),fun h=>.inl ⟨by omega,h⟩⟩
  have hlt : i < next.length:=of_decide_eq_true hT;have hrl : next[i].length = Ln:=by have:=(hs.rows i hlt).1; omega
  obtain ⟨bn,on,cn2,hvn,ar,cr,hc1,hc2⟩:=hm1.cell hlt;simp only [Value.slice.injEq,true_and] at hvn;obtain ⟨rfl,rfl⟩:=hvn;refine wp_seq (wp_block ?_);refine wp_seq (ai [(1,.slice ah hid.length ch),(2,Vp M),(5,Vs g next.length next.length),(20,.slice (some ⟨bn,on,none⟩) next.length cn),(21,Vi next.length),(22,Vi i),(6,Vi i),(7,.slice ar next[i].length cr)] (· = w4) af hS ?_ (fun a w5 hS hw=>?_))
  ·repeat refine zX rfl ?_
   refine zI rfl (rfl) (hlt) ?_;refine zL rfl (Go.Proofs.YtndldmojkpjgoaaGreatDoor.keep h.b hc1) ?_
   repeat refine zX rfl ?_
   exact aj ⟨⟨rfl,rfl,rfl,rfl,rfl,rfl,rfl,rfl,trivial⟩,rfl⟩
  subst hw;refine wp_seq (ai [(1,.slice ah hid.length ch),(2,Vp M),(5,Vs g next.length next.length),(20,.slice (some ⟨bn,on,none⟩) next.length cn),(21,Vi next.length),(22,Vi i),(6,Vi i),(7,.slice ar next[i].length cr)] (fun w'=>Hold w1.heap.size w1 w' [oT (Vs g next.length next.length) (xs.set i (gt xs i ||| 2 ^ i))]) af hS ?_ (fun a w6 hS h=>?_))
  ·obtain ⟨k1,k2,-⟩:=qg h (i:=0) rfl (s:=i) (by omega)
   repeat refine zX rfl ?_
   refine zI rfl (rfl) (hlt) ?_
   repeat refine zX rfl ?_
   refine zF rfl (ag9) (acu _ k1 k2 (hxt i hlt) (by omega)) ?_;rintro e w6 ⟨rfl,rfl⟩;refine ⟨_,rfl,?_⟩
   repeat refine zX rfl ?_
   exact aj ⟨⟨rfl,rfl,rfl,rfl,rfl,rfl,rfl,rfl,trivial⟩,h.drew.storeT (i:=0) rfl i _⟩
  have hx0 : gt xs i = 0:=Classical.byContradiction fun hne=>by
   obtain ⟨j,hj⟩:=pf.1 hne
   rcases (hxr i j hlt).1 hj with h | h
   ·omega
   ·exact h.2
  have hph : (xs.set i (gt xs i ||| 2 ^ i)).length = next.length ∧ (∀ s,s < next.length → gt (xs.set i (gt xs i ||| 2 ^ i)) s < 16384) ∧ (∀ s j,s < next.length → (RM (xs.set i (gt xs i ||| 2 ^ i)) s j ↔ (s < i ∧ P1 next hid s Ln j) ∨ (s = i ∧ P1 next hid s 0 j))):=by
   refine ⟨by simp [hxl],fun s hs=>?_,fun s j hs=>?_⟩
   ·rw [fh]
    split
    ·exact ait (hxt i hlt) (afs (by omega))
    ·exact hxt s hs
   ·rw [RM,fh]
    split
    ·rename_i e;obtain ⟨rfl,_⟩:=e;rw [hx0,Nat.zero_or,ahn]
     constructor
     ·rintro rfl; exact .inr ⟨rfl,.inl rfl⟩
     ·rintro (h | ⟨_,h | ⟨c,hc,_⟩⟩)
      ·omega
      ·exact h
      ·omega
    ·rename_i e;have hne : s ≠ i:=fun e2=>e ⟨e2.symm,by omega⟩;refine (hxr s j hs).trans ⟨fun h=>h.imp id fun h=>(hne h.1).elim,fun h=>h.imp id fun h=>(hne h.1).elim⟩
  generalize xs.set i (gt xs i ||| 2 ^ i) = ys at h hph
  clear hxl hxt hxr hx0;refine wp_seq (ai [(1,.slice ah hid.length ch),(2,Vp M),(5,Vs g next.length next.length),(20,.slice (some ⟨bn,on,none⟩) next.length cn),(21,Vi next.length),(22,Vi i),(6,Vi i),(32,.slice ar next[i].length cr),(33,Vi Ln),(34,Vi (0 : Nat))] (· = w6) af hS ?_ (fun a w7 hS hw=>?_))
  ·rw [show (Vi Ln : Value) = Vi next[i].length by rw [hrl]]
   repeat refine zX rfl ?_
   exact aj ⟨⟨rfl,rfl,rfl,rfl,rfl,rfl,rfl,rfl,rfl,rfl,trivial⟩,rfl⟩
  subst hw;refine wp_block (cz hS (fun γ E wr=>∃ (k : Nat) (xs : List Nat),k ≤ Ln ∧ γ = Ln - k ∧ E = [(1,.slice ah hid.length ch),(2,Vp M),(5,Vs g next.length next.length),(20,.slice (some ⟨bn,on,none⟩) next.length cn),(21,Vi next.length),(22,Vi i),(6,Vi i),(32,.slice ar next[i].length cr),(33,Vi Ln),(34,Vi k)] ∧ (xs.length = next.length ∧ (∀ s,s < next.length → gt xs s < 16384) ∧ (∀ s j,s < next.length → (RM xs s j ↔ (s < i ∧ P1 next hid s Ln j) ∨ (s = i ∧ P1 next hid s k j)))) ∧ Hold w1.heap.size w1 wr [oT (Vs g next.length next.length) xs]) Ln ⟨0,ys,Nat.zero_le _,rfl,rfl,hph,h⟩ ?_);clear hS h hph;rintro γ E wr a1 ⟨k,xs,hk,rfl,rfl,⟨hxl,hxt,hxr⟩,h⟩ hS;refine wp_seq (ai [(1,.slice ah hid.length ch),(2,Vp M),(5,Vs g next.length next.length),(20,.slice (some ⟨bn,on,none⟩) next.length cn),(21,Vi next.length),(22,Vi i),(6,Vi i),(32,.slice ar next[i].length cr),(33,Vi Ln),(34,Vi k),(35,.bool (decide (k < Ln)))] (· = wr) af hS ?_ (fun a w8 hS hw=>?_))
  ·refine zC rfl (co _ _) ?_
   repeat refine zX rfl ?_
   exact aj ⟨⟨rfl,rfl,rfl,rfl,rfl,rfl,rfl,rfl,rfl,rfl,rfl,trivial⟩,rfl⟩
  subst hw;refine wp_seq (cond hS rfl (fun hT2=>wp_skip ?_) (fun hF2=>?_))
  rotate_left
  ·have hge : k = Ln:=by have:=of_decide_eq_false hF2; omega
   refine wp_exit ?_
   repeat first|refine bf ?_|refine ba ?_|refine az rfl ?_
   refine ay ?_;refine ai [(1,.slice ah hid.length ch),(2,Vp M),(5,Vs g next.length next.length),(20,.slice (some ⟨bn,on,none⟩) next.length cn),(21,Vi next.length),(22,Vi (i + 1 : Nat))] (· = w8) af hS ?_ (fun a w9 hS hw=>?_)
   ·repeat refine zX rfl ?_
    refine zN rfl (bm i 1 (by omega)) ?_
    repeat refine zX rfl ?_
    exact aj ⟨⟨rfl,rfl,rfl,rfl,rfl,rfl,trivial⟩,rfl⟩
   subst hw;refine ⟨next.length - (i + 1),_,by omega,⟨i + 1,xs,hlt,rfl,rfl,⟨hxl,hxt,fun s j hs=>?_⟩,h⟩,hS⟩;rw [hxr s j hs]
   constructor
   ·rintro (⟨h1,h2⟩ | ⟨rfl,h2⟩)
    ·exact .inl ⟨by omega,h2⟩
    ·exact .inl ⟨by omega,by rw [← hge]; exact h2⟩
   ·rintro (⟨h1,h2⟩ | ⟨_,h2⟩)
    ·rcases Nat.lt_or_ge s i with h3 | h3
     ·exact .inl ⟨h3,h2⟩
     ·exact .inr ⟨by omega,by rw [hge]; exact h2⟩
    ·exact h2.elim
  have hkL : k < Ln:=of_decide_eq_true hT2;have hkr : k < next[i].length:=by omega
  have hkh : k < hid.length:=by omega
  have hhk : hidB hid k = hid[k]:=by simp [hidB,hkh]
  obtain ⟨x,hx⟩ : ∃ x,next[i][k] = x:=⟨_,rfl⟩;have hxr2:=(hs.rows i hlt).2 k hkr;rw [hx] at hxr2;have htg : tgtM next (i : Nat) k = x:=by rw [pw hlt hkr,hx]
  obtain ⟨br,orr,rfl,hc3⟩:=hc2 k hkr;rw [hx] at hc3;refine wp_seq (wp_block ?_);refine wp_seq (ai [(1,.slice ah hid.length ch),(2,Vp M),(5,Vs g next.length next.length),(20,.slice (some ⟨bn,on,none⟩) next.length cn),(21,Vi next.length),(22,Vi i),(6,Vi i),(32,.slice (some ⟨br,orr,none⟩) next[i].length cr),(33,Vi Ln),(34,Vi k),(8,Vi k),(9,Vi x)] (· = w8) af hS ?_ (fun a w9 hS hw=>?_))
  ·repeat refine zX rfl ?_
   refine zI rfl (rfl) (hkr) ?_;refine zL rfl (Go.Proofs.YtndldmojkpjgoaaGreatDoor.keep h.b hc3) ?_
   repeat refine zX rfl ?_
   exact aj ⟨⟨rfl,rfl,rfl,rfl,rfl,rfl,rfl,rfl,rfl,rfl,rfl,rfl,trivial⟩,rfl⟩
  subst hw;obtain ⟨b46,hb46⟩ : ∃ b,(hid[k] && decide (0 ≤ x)) = b:=⟨_,rfl⟩;refine wp_seq (ai [(1,.slice ah hid.length ch),(2,Vp M),(5,Vs g next.length next.length),(20,.slice (some ⟨bn,on,none⟩) next.length cn),(21,Vi next.length),(22,Vi i),(6,Vi i),(32,.slice (some ⟨br,orr,none⟩) next[i].length cr),(33,Vi Ln),(34,Vi k),(9,Vi x),(46,.bool b46)] (· = w9) af hS ?_ (fun a w10 hS hw=>?_))
  ·obtain ⟨b,o,rfl,hc⟩:=hcell h.b hkh
   cases e0 : hid[k]
   ·rw [e0,Bool.false_and] at hb46; subst hb46;rw [e0] at hc
    repeat refine zX rfl ?_
    refine zI rfl (rfl) (hkh) ?_;refine zL rfl (hc) ?_
    repeat refine zX rfl ?_
    exact aj ⟨⟨rfl,rfl,rfl,rfl,rfl,rfl,rfl,rfl,rfl,rfl,rfl,rfl,trivial⟩,rfl⟩
   ·rw [e0,Bool.true_and] at hb46; subst hb46;rw [e0] at hc
    repeat refine zX rfl ?_
    refine zI rfl (rfl) (hkh) ?_;refine zL rfl (hc) ?_
    repeat refine zX rfl ?_
    refine zC rfl (rfl) ?_
    repeat refine zX rfl ?_
    exact aj ⟨⟨rfl,rfl,rfl,rfl,rfl,rfl,rfl,rfl,rfl,rfl,rfl,rfl,trivial⟩,rfl⟩
  subst hw
  have hstep : ∀ j,P1 next hid i (k + 1) j ↔ P1 next hid i k j ∨ (hidB hid k = true ∧ x = (j : Int)):=fun j=>by
   constructor
   ·rintro (h | ⟨c,hc,h1,h2⟩)
    ·exact .inl (.inl h)
    ·rcases Nat.lt_or_ge c k with h3 | h3
     ·exact .inl (.inr ⟨c,h3,h1,h2⟩)
     ·obtain rfl : c = k:=by omega
      exact .inr ⟨h1,by rw [← htg]; exact h2⟩
   ·rintro ((h | ⟨c,hc,h1⟩) | ⟨h1,h2⟩)
    ·exact .inl h
    ·exact .inr ⟨c,by omega,h1⟩
    ·exact .inr ⟨k,by omega,h1,by rw [htg]; exact h2⟩
  refine cut (F:=fun a' wr=>∃ xs : List Nat,St Tryz.f24.ntmps a' [(1,.slice ah hid.length ch),(2,Vp M),(5,Vs g next.length next.length),(20,.slice (some ⟨bn,on,none⟩) next.length cn),(21,Vi next.length),(22,Vi i),(6,Vi i),(32,.slice (some ⟨br,orr,none⟩) next[i].length cr),(33,Vi Ln),(34,Vi k)] ∧ (xs.length = next.length ∧ (∀ s,s < next.length → gt xs s < 16384) ∧ (∀ s j,s < next.length → (RM xs s j ↔ (s < i ∧ P1 next hid s Ln j) ∨ (s = i ∧ P1 next hid s (k + 1) j)))) ∧ Hold w1.heap.size w1 wr [oT (Vs g next.length next.length) xs]) ?_ ?_
  ·refine cond hS rfl (fun hT3=>?_) (fun hF3=>wp_skip ?_)
   ·rw [hT3,Bool.and_eq_true] at hb46;obtain ⟨xn,rfl⟩:=Int.eq_ofNat_of_zero_le (of_decide_eq_true hb46.2);refine ai [(1,.slice ah hid.length ch),(2,Vp M),(5,Vs g next.length next.length),(20,.slice (some ⟨bn,on,none⟩) next.length cn),(21,Vi next.length),(22,Vi i),(6,Vi i),(32,.slice (some ⟨br,orr,none⟩) next[i].length cr),(33,Vi Ln),(34,Vi k)] (fun w'=>Hold w1.heap.size w1 w' [oT (Vs g next.length next.length) (xs.set i (gt xs i ||| 2 ^ xn))]) af hS ?_ (fun a w11 hS h=>⟨xs.set i (gt xs i ||| 2 ^ xn),hS,⟨by simp [hxl],fun s hs=>?_,fun s j hs=>?_⟩,h⟩)
    ·obtain ⟨k1,k2,-⟩:=qg h (i:=0) rfl (s:=i) (by omega)
     repeat refine zX rfl ?_
     refine zI rfl (rfl) (hlt) ?_
     repeat refine zX rfl ?_
     refine zF rfl (ag9) (acu _ k1 k2 (hxt i hlt) (by omega)) ?_;rintro e w6 ⟨rfl,rfl⟩;refine ⟨_,rfl,?_⟩
     repeat refine zX rfl ?_
     exact aj ⟨⟨rfl,rfl,rfl,rfl,rfl,rfl,rfl,rfl,rfl,rfl,trivial⟩,h.drew.storeT (i:=0) rfl i _⟩
    ·rw [fh]
     split
     ·exact ait (hxt i hlt) (afs (by omega))
     ·exact hxt s hs
    ·rw [RM,fh]
     split
     ·rename_i e;obtain ⟨rfl,_⟩:=e;have hq : bitP (gt xs i) j ↔ _:=hxr i j hs;rw [aho,ahn,hq,hstep]
      constructor
      ·rintro ((h | h) | rfl)
       ·omega
       ·exact .inr ⟨rfl,.inl h.2⟩
       ·exact .inr ⟨rfl,.inr ⟨by rw [hhk]; exact hb46.1,rfl⟩⟩
      ·rintro (h | ⟨_,h | ⟨_,h⟩⟩)
       ·omega
       ·exact .inl (.inr ⟨rfl,h⟩)
       ·exact .inr (by omega)
     ·rename_i e;have hne : s ≠ i:=fun e2=>e ⟨e2.symm,by omega⟩;refine (hxr s j hs).trans ⟨fun h=>h.imp id fun h=>(hne h.1).elim,fun h=>h.imp id fun h=>(hne h.1).elim⟩
   ·refine ⟨xs,hS.sub ⟨rfl,rfl,rfl,rfl,rfl,rfl,rfl,rfl,rfl,rfl,trivial⟩,⟨hxl,hxt,fun s j hs=>?_⟩,h⟩;rw [hxr s j hs];refine ⟨fun h=>h.imp id fun h=>⟨h.1,?_⟩,fun h=>h.imp id fun h=>⟨h.1,?_⟩⟩
    ·obtain rfl:=h.1;exact (hstep j).2 (.inl h.2)
    ·obtain rfl:=h.1;refine ((hstep j).1 h.2).elim id fun h2=>?_;rw [hF3,← hhk,h2.1,Bool.true_and] at hb46
     have:=of_decide_eq_false hb46
     omega
  clear hS h hxl hxt hxr;rintro a w11 ⟨xs,hS,hph,h⟩;refine ay ?_;refine ai [(1,.slice ah hid.length ch),(2,Vp M),(5,Vs g next.length next.length),(20,.slice (some ⟨bn,on,none⟩) next.length cn),(21,Vi next.length),(22,Vi i),(6,Vi i),(32,.slice (some ⟨br,orr,none⟩) next[i].length cr),(33,Vi Ln),(34,Vi (k + 1 : Nat))] (· = w11) af hS ?_ (fun a w12 hS hw=>?_)
  ·repeat refine zX rfl ?_
   refine zN rfl (bm k 1 (by omega)) ?_
   repeat refine zX rfl ?_
   exact aj ⟨⟨rfl,rfl,rfl,rfl,rfl,rfl,rfl,rfl,rfl,rfl,trivial⟩,rfl⟩
  subst hw;exact ⟨Ln - (k + 1),_,by omega,⟨k + 1,xs,hkL,rfl,rfl,hph,h⟩,hS⟩
 clear hS h;rintro a w3 ⟨xs,hS,h,hW⟩;refine wp_seq (cut (F:=fun a' w'=>∃ xs : List Nat,St Tryz.f24.ntmps a' [(1,.slice ah hid.length ch),(2,Vp M),(5,Vs g next.length next.length)] ∧ Hold w1.heap.size w1 w' [oT (Vs g next.length next.length) xs] ∧ WarI Ln next.length next hid next.length xs) ?_ ?_)
 ·refine wp_seq (ai [(1,.slice ah hid.length ch),(2,Vp M),(5,Vs g next.length next.length),(55,Vi next.length),(56,Vi (0 : Nat))] (· = w3) af hS ?_ (fun a w4 hS hw=>?_))
  ·repeat refine zX rfl ?_
   exact aj ⟨⟨rfl,rfl,rfl,rfl,rfl,trivial⟩,rfl⟩
  subst hw;refine wp_block (cz hS (fun γ E wr=>∃ (k : Nat) (xs : List Nat),k ≤ next.length ∧ γ = next.length - k ∧ E = [(1,.slice ah hid.length ch),(2,Vp M),(5,Vs g next.length next.length),(55,Vi next.length),(56,Vi k)] ∧ Hold w1.heap.size w1 wr [oT (Vs g next.length next.length) xs] ∧ WarI Ln next.length next hid k xs) next.length ⟨0,xs,Nat.zero_le _,rfl,rfl,h,hW⟩ ?_);clear hS h hW;rintro γ E wr a1 ⟨k,xs,hk,rfl,rfl,h,hW⟩ hS;have hxl:=hW.len;refine wp_seq (ai [(1,.slice ah hid.length ch),(2,Vp M),(5,Vs g next.length next.length),(55,Vi next.length),(56,Vi k),(57,.bool (decide (k < next.length)))] (· = wr) af hS ?_ (fun a w5 hS hw=>?_))
  ·refine zC rfl (co _ _) ?_
   repeat refine zX rfl ?_
   exact aj ⟨⟨rfl,rfl,rfl,rfl,rfl,rfl,trivial⟩,rfl⟩
  subst hw;refine wp_seq (cond hS rfl (fun hT=>wp_skip ?_) (fun hF=>?_))
  rotate_left
  ·have hge : k = next.length:=by have:=of_decide_eq_false hF; omega
   refine wp_exit ?_
   repeat first|refine bf ?_|refine ba ?_|refine az rfl ?_
   exact ⟨xs,hS.sub ⟨rfl,rfl,rfl,trivial⟩,h,by rw [← hge] at hW ⊢; exact hW⟩
  have hlt : k < next.length:=of_decide_eq_true hT;refine wp_seq (wp_block ?_);refine wp_seq (ai [(1,.slice ah hid.length ch),(2,Vp M),(5,Vs g next.length next.length),(55,Vi next.length),(56,Vi k),(10,Vi k)] (· = w5) af hS ?_ (fun a w6 hS hw=>?_))
  ·repeat refine zX rfl ?_
   exact aj ⟨⟨rfl,rfl,rfl,rfl,rfl,rfl,trivial⟩,rfl⟩
  subst hw;refine wp_seq (bg (α:=Value) (fun v=>[(1,.slice ah hid.length ch),(2,Vp M),(5,Vs g next.length next.length),(55,Vi next.length),(56,Vi k),(10,Vi k),(11,v)]) (fun v w'=>Hold w1.heap.size w1 w' [oC v (gt xs k),oT (Vs g next.length next.length) xs]) af hS ?_ (fun v a w7 hS h=>?_))
  ·repeat refine zX rfl ?_
   refine zI rfl (rfl) (hlt) ?_
   repeat refine zX rfl ?_
   refine zF rfl (vq) (t6 (x:=gt xs k) h (fun u hu=>(qg hu (i:=0) rfl (s:=k) (by omega)).2.2)) ?_;rintro e w7 ⟨v,rfl,h7⟩;refine ⟨_,rfl,?_⟩
   repeat refine zX rfl ?_
   exact aj ⟨v,⟨rfl,rfl,rfl,rfl,rfl,rfl,rfl,trivial⟩,h7⟩
  refine wp_seq (ai [(1,.slice ah hid.length ch),(2,Vp M),(5,Vs g next.length next.length),(55,Vi next.length),(56,Vi k),(10,Vi k),(11,v),(64,Vi next.length),(65,Vi (0 : Nat))] (· = w7) af hS ?_ (fun a w8 hS hw=>?_))
  ·repeat refine zX rfl ?_
   exact aj ⟨⟨rfl,rfl,rfl,rfl,rfl,rfl,rfl,rfl,rfl,trivial⟩,rfl⟩
  subst hw;have hq0 : ∀ s,s < next.length → gt xs s = if s < 0 ∧ (gt xs s).testBit k = true then gt xs s ||| gt xs k else gt xs s:=fun s _=>by rw [if_neg (by omega)]
  refine wp_block (cz hS (fun γ E wr=>∃ (q : Nat) (ys : List Nat),q ≤ next.length ∧ γ = next.length - q ∧ E = [(1,.slice ah hid.length ch),(2,Vp M),(5,Vs g next.length next.length),(55,Vi next.length),(56,Vi k),(10,Vi k),(11,v),(64,Vi next.length),(65,Vi q)] ∧ ys.length = next.length ∧ (∀ s,s < next.length → gt ys s = if s < q ∧ (gt xs s).testBit k = true then gt xs s ||| gt xs k else gt xs s) ∧ Hold w1.heap.size w1 wr [oC v (gt xs k),oT (Vs g next.length next.length) ys]) next.length ⟨0,xs,Nat.zero_le _,rfl,rfl,hxl,hq0,h⟩ ?_);clear hS h hq0;rintro γ E wr a1 ⟨q,ys,hq,rfl,rfl,hyl,hys,h⟩ hS;refine wp_seq (ai [(1,.slice ah hid.length ch),(2,Vp M),(5,Vs g next.length next.length),(55,Vi next.length),(56,Vi k),(10,Vi k),(11,v),(64,Vi next.length),(65,Vi q),(66,.bool (decide (q < next.length)))] (· = wr) af hS ?_ (fun a w9 hS hw=>?_))
  ·refine zC rfl (co _ _) ?_
   repeat refine zX rfl ?_
   exact aj ⟨⟨rfl,rfl,rfl,rfl,rfl,rfl,rfl,rfl,rfl,rfl,trivial⟩,rfl⟩
  subst hw;refine wp_seq (cond hS rfl (fun hT2=>wp_skip ?_) (fun hF2=>?_))
  rotate_left
  ·have hge : q = next.length:=by have:=of_decide_eq_false hF2; omega
   refine wp_exit ?_
   repeat first|refine bf ?_|refine ba ?_|refine az rfl ?_
   refine ay ?_;refine ai [(1,.slice ah hid.length ch),(2,Vp M),(5,Vs g next.length next.length),(55,Vi next.length),(56,Vi (k + 1 : Nat))] (· = w9) af hS ?_ (fun a w10 hS hw=>?_)
   ·repeat refine zX rfl ?_
    refine zN rfl (bm k 1 (by omega)) ?_
    repeat refine zX rfl ?_
    exact aj ⟨⟨rfl,rfl,rfl,rfl,rfl,trivial⟩,rfl⟩
   subst hw;refine ⟨next.length - (k + 1),_,by omega,⟨k + 1,ys,hlt,rfl,rfl,h.tail,hW.more hlt hyl fun s hs=>?_⟩,hS⟩;rw [hys s hs];have : s < q:=by omega
   simp only [this,true_and]
  have hqn : q < next.length:=of_decide_eq_true hT2;have hyq : gt ys q = gt xs q:=by rw [hys q hqn,if_neg (by omega)]
  refine wp_seq (wp_block ?_);refine wp_seq (ai [(1,.slice ah hid.length ch),(2,Vp M),(5,Vs g next.length next.length),(55,Vi next.length),(56,Vi k),(10,Vi k),(11,v),(64,Vi next.length),(65,Vi q),(12,Vi q)] (· = w9) af hS ?_ (fun a w10 hS hw=>?_))
  ·repeat refine zX rfl ?_
   exact aj ⟨⟨rfl,rfl,rfl,rfl,rfl,rfl,rfl,rfl,rfl,rfl,trivial⟩,rfl⟩
  subst hw;refine wp_seq (ai [(1,.slice ah hid.length ch),(2,Vp M),(5,Vs g next.length next.length),(55,Vi next.length),(56,Vi k),(10,Vi k),(11,v),(64,Vi next.length),(65,Vi q),(12,Vi q),(72,.bool ((gt xs q).testBit k))] (· = w10) af hS ?_ (fun a w11 hS hw=>?_))
  ·have hc:=(qg h (i:=1) rfl (s:=q) (by omega)).1;rw [hyq] at hc
   repeat refine zX rfl ?_
   refine zI rfl (rfl) (hqn) ?_
   repeat refine zX rfl ?_
   refine zF rfl (ag8) (act _ hc (hW.lt q hqn) (by omega)) ?_;rintro e w11 ⟨rfl,rfl⟩;refine ⟨_,rfl,?_⟩
   repeat refine zX rfl ?_
   exact aj ⟨⟨rfl,rfl,rfl,rfl,rfl,rfl,rfl,rfl,rfl,rfl,rfl,trivial⟩,rfl⟩
  subst hw;refine cut (F:=fun a' w'=>∃ ys : List Nat,St Tryz.f24.ntmps a' [(1,.slice ah hid.length ch),(2,Vp M),(5,Vs g next.length next.length),(55,Vi next.length),(56,Vi k),(10,Vi k),(11,v),(64,Vi next.length),(65,Vi q)] ∧ ys.length = next.length ∧ (∀ s,s < next.length → gt ys s = if s < q + 1 ∧ (gt xs s).testBit k = true then gt xs s ||| gt xs k else gt xs s) ∧ Hold w1.heap.size w1 w' [oC v (gt xs k),oT (Vs g next.length next.length) ys]) ?_ ?_
  ·refine cond hS rfl (fun hT3=>?_) (fun hF3=>wp_skip ?_)
   ·refine ai [(1,.slice ah hid.length ch),(2,Vp M),(5,Vs g next.length next.length),(55,Vi next.length),(56,Vi k),(10,Vi k),(11,v),(64,Vi next.length),(65,Vi q)] (fun w'=>Hold w1.heap.size w1 w' [oC v (gt xs k),oT (Vs g next.length next.length) (ys.set q (gt ys q ||| gt xs k))]) af hS ?_ (fun a w12 hS h=>⟨_,hS,by simp [hyl],fun s hs=>?_,h⟩)
    ·have hj:=ru ys q 0 (by omega) (by decide);rw [if_pos rfl,Nat.add_zero] at hj;have hjn:=ahu (v:=v) h (i:=1) (g:=g) (n:=next.length) (c:=next.length) rfl hj (by rw [hyq]; exact hW.lt q hqn) (hW.lt k hlt) (fun u xs' hu=>oC_at hu (i:=0) rfl);rw [rt] at hjn
     repeat refine zX rfl ?_
     refine zI rfl (rfl) (hqn) ?_
     repeat refine zX rfl ?_
     refine zF rfl (xk) (hjn) ?_;rintro e w12 ⟨rfl,h12⟩;refine ⟨_,rfl,?_⟩;rw [oT,List.length_set]
     repeat refine zX rfl ?_
     exact aj ⟨⟨rfl,rfl,rfl,rfl,rfl,rfl,rfl,rfl,rfl,trivial⟩,h12⟩
    ·rw [fh]
     split
     ·rename_i e;obtain ⟨rfl,_⟩:=e;rw [if_pos ⟨by omega,hT3⟩,hyq]
     ·rename_i e;have hne : s ≠ q:=fun e2=>e ⟨e2.symm,by omega⟩;rw [hys s hs];have : (s < q) = (s < q + 1):=by simp; omega
      simp only [this]
   ·refine ⟨ys,hS.sub ⟨rfl,rfl,rfl,rfl,rfl,rfl,rfl,rfl,rfl,trivial⟩,hyl,fun s hs=>?_,h⟩;rw [hys s hs]
    by_cases e : s = q
    ·subst e;rw [hF3,if_neg (by simp),if_neg (by simp)]
    ·have : (s < q) = (s < q + 1):=by simp; omega
     simp only [this]
  clear hS h hys hyl hyq;rintro a w12 ⟨ys,hS,hyl,hys,h⟩;refine ay ?_;refine ai [(1,.slice ah hid.length ch),(2,Vp M),(5,Vs g next.length next.length),(55,Vi next.length),(56,Vi k),(10,Vi k),(11,v),(64,Vi next.length),(65,Vi (q + 1 : Nat))] (· = w12) af hS ?_ (fun a w13 hS hw=>?_)
  ·repeat refine zX rfl ?_
   refine zN rfl (bm q 1 (by omega)) ?_
   repeat refine zX rfl ?_
   exact aj ⟨⟨rfl,rfl,rfl,rfl,rfl,rfl,rfl,rfl,rfl,trivial⟩,rfl⟩
  subst hw;exact ⟨next.length - (q + 1),_,by omega,⟨q + 1,ys,hqn,rfl,rfl,hyl,hys,h⟩,hS⟩
 clear hS h hW;rintro a w4 ⟨xs,hS,h,hW⟩;have hxl:=hW.len;refine wp_seq (bg (α:=Nat) (fun q=>[(1,.slice ah hid.length ch),(2,Vp M),(5,Vs g next.length next.length),(13,Vs q next.length next.length)]) (fun q w'=>Hold w1.heap.size w1 w' ((⟨Vs q next.length next.length,58,1,(List.replicate next.length (Value.slice none 0 0)).length,List.replicate next.length (.slice none 0 0)⟩ : Ow) :: oT (Vs g next.length next.length) xs :: List.zipWith oC (List.replicate next.length (.slice none 0 0)) (List.replicate next.length 0))) af hS ?_ (fun q a w5 hS h=>?_))
 ·have h2:=h.makeH (n:=next.length) (by omega);have h3:=zo (f:=oC) (x0:=0) (e:=110) (s:=2) rfl h2 next.length
  repeat refine zX rfl ?_
  refine zM (next.length) rfl rfl rfl rfl rfl ((by show 24 * _ ≤ _; omega)) ((by omega)) ?_
  repeat refine zX rfl ?_
  exact aj ⟨_,⟨rfl,rfl,rfl,rfl,trivial⟩,by rw [List.length_replicate]; exact h3⟩
 refine wp_seq (wp_seq (ai [(1,.slice ah hid.length ch),(2,Vp M),(5,Vs g next.length next.length),(13,Vs q next.length next.length),(84,Vi next.length),(85,Vi (0 : Nat))] (· = w5) af hS ?_ (fun a w6 hS hw=>?_)))
 ·repeat refine zX rfl ?_
  exact aj ⟨⟨rfl,rfl,rfl,rfl,rfl,rfl,trivial⟩,rfl⟩
 subst hw
 have hz0 : List.replicate next.length 0 = (List.range next.length).map fun s=>if s < 0 then gt xs s else 0:=by
  refine List.ext_getElem (by simp) fun j h1 h2=>by simp
 rw [hz0] at h;refine wp_block (cz hS (fun γ E wr=>∃ (i : Nat) (us : List Value),i ≤ next.length ∧ γ = next.length - i ∧ E = [(1,.slice ah hid.length ch),(2,Vp M),(5,Vs g next.length next.length),(13,Vs q next.length next.length),(84,Vi next.length),(85,Vi i)] ∧ us.length = next.length ∧ Hold w1.heap.size w1 wr ((⟨Vs q next.length next.length,58,1,us.length,us⟩ : Ow) :: oT (Vs g next.length next.length) xs :: List.zipWith oC us ((List.range next.length).map fun s=>if s < i then gt xs s else 0))) next.length ⟨0,_,Nat.zero_le _,rfl,rfl,List.length_replicate,h⟩ ?_);clear hS h hz0;rintro γ E wr a1 ⟨i,us,hi,rfl,rfl,hus,h⟩ hS;refine wp_seq (ai [(1,.slice ah hid.length ch),(2,Vp M),(5,Vs g next.length next.length),(13,Vs q next.length next.length),(84,Vi next.length),(85,Vi i),(86,.bool (decide (i < next.length)))] (· = wr) af hS ?_ (fun a w7 hS hw=>?_))
 ·refine zC rfl (co _ _) ?_
  repeat refine zX rfl ?_
  exact aj ⟨⟨rfl,rfl,rfl,rfl,rfl,rfl,rfl,trivial⟩,rfl⟩
 subst hw;refine wp_seq (cond hS rfl (fun hT=>wp_skip ?_) (fun hF=>?_))
 rotate_left
 ·have hge : i = next.length:=by have:=of_decide_eq_false hF; omega
  refine wp_exit ?_
  repeat first|refine bf ?_|refine ba ?_|refine az rfl ?_
  refine wp_seq (ai [(4,Vs q next.length next.length)] (· = w7) af hS ?_ (fun a w8 hS hw'=>?_))
  ·repeat refine zX rfl ?_
   exact aj ⟨⟨rfl,trivial⟩,rfl⟩
  subst hw'
  have e1 : ((List.range next.length).map fun s=>if s < i then gt xs s else 0) = xs:=by
   refine List.ext_getElem (by simp [hxl]) fun j h1 h2=>?_;have hj : j < next.length:=by simpa using h1
   simp only [List.getElem_map,List.getElem_range];rw [if_pos (by omega)];simp [gt,List.getD_eq_getElem?_getD,h2]
  rw [e1] at h;have h2:=h.erase 1;refine wp_ret ?_
  repeat first|refine a8 ?_|refine am ?_
  exact ret1 hS rfl rfl ⟨q,us,xs,rfl,hus,hxl,fun s hs'=>⟨hW.lt s hs',fun j=>hW.done (fun s' c hs2 hc=>(dm hs s' (by omega) (by omega) c (by omega)).2) hs'⟩,h2.rebase hB.size (ak hB h2.b) (Nat.le_trans hB.size h2.s)⟩
 have hlt : i < next.length:=of_decide_eq_true hT;refine wp_seq (wp_block ?_);refine wp_seq (ai [(1,.slice ah hid.length ch),(2,Vp M),(5,Vs g next.length next.length),(13,Vs q next.length next.length),(84,Vi next.length),(85,Vi i),(14,Vi i)] (· = w7) af hS ?_ (fun a w8 hS hw=>?_))
 ·repeat refine zX rfl ?_
  exact aj ⟨⟨rfl,rfl,rfl,rfl,rfl,rfl,rfl,trivial⟩,rfl⟩
 subst hw;obtain ⟨Z,hZ⟩ : ∃ Z,Z = (List.range next.length).map fun s=>if s < i then gt xs s else 0:=⟨_,rfl⟩;have hZl : Z.length = next.length:=by rw [hZ]; simp
 rw [← hZ] at h;refine bg (α:=Value) (fun v=>[(1,.slice ah hid.length ch),(2,Vp M),(5,Vs g next.length next.length),(13,Vs q next.length next.length),(84,Vi next.length),(85,Vi i)]) (fun v w'=>Hold w1.heap.size w1 w' ((⟨Vs q next.length next.length,58,1,(us.set i v).length,us.set i v⟩ : Ow) :: oT (Vs g next.length next.length) xs :: List.zipWith oC (us.set i v) (Z.set i (gt xs i)))) af hS ?_ (fun v a w9 hS h=>?_)
 ·repeat refine zX rfl ?_
  refine zI rfl (rfl) (hlt) ?_
  repeat refine zX rfl ?_
  refine zF rfl (vq) (t6 (x:=gt xs i) h (fun u hu=>(qg hu (i:=1) rfl (s:=i) (by omega)).2.2)) ?_;rintro e w9 ⟨v,rfl,h9⟩;refine ⟨_,rfl,?_⟩;have hcv:=h9.r.cellV (i:=1) (g:=q) (n:=next.length) (c:=next.length) rfl (j:=i) (u:=us[i]'(by omega)) (List.getElem?_eq_getElem (by omega));have hfv:=h9.r.freeI (i:=1) (g:=q) (n:=next.length) (c:=next.length) rfl i;have h10:=h9.store (i:=1) rfl i v;obtain ⟨gv,cv,hv,-⟩:=h9.r.any (i:=0) (v:=v) (e:=110) (s:=2) (n:=ckN (gt xs i)) (xs:=ckC (gt xs i)) rfl;subst hv
  repeat refine zX rfl ?_
  refine zI rfl (rfl) (hlt) ?_;refine zS rfl rfl (hcv) (hfv) ?_;refine aj ⟨.slice gv (ckN (gt xs i)) cv,⟨rfl,rfl,rfl,rfl,rfl,rfl,trivial⟩,?_⟩;rw [aek,List.length_set];have h11:=h10.putRow (A:=[⟨Vs q next.length next.length,58,1,us.length,us.set i (.slice gv (ckN (gt xs i)) cv)⟩,oT (Vs g next.length next.length) xs]) (Z:=List.zipWith oC us Z) (i:=i) (by simp; omega);exact h11
 have hset : Z.set i (gt xs i) = (List.range next.length).map fun s=>if s < i + 1 then gt xs s else 0:=by
  rw [hZ];refine List.ext_getElem (by simp) fun j h1 h2=>?_;rw [List.getElem_set]
  split
  ·rename_i e; subst e; simp
  ·rename_i e;simp only [List.getElem_map,List.getElem_range];have : (j < i) = (j < i + 1):=by simp; omega
   simp only [this]
 rw [hset] at h;refine ay ?_;refine ai [(1,.slice ah hid.length ch),(2,Vp M),(5,Vs g next.length next.length),(13,Vs q next.length next.length),(84,Vi next.length),(85,Vi (i + 1 : Nat))] (· = w9) af hS ?_ (fun a w10 hS hw=>?_)
 ·repeat refine zX rfl ?_
  refine zN rfl (bm i 1 (by omega)) ?_
  repeat refine zX rfl ?_
  exact aj ⟨⟨rfl,rfl,rfl,rfl,rfl,rfl,trivial⟩,rfl⟩
 subst hw;exact ⟨next.length - (i + 1),_,by omega,⟨i + 1,us.set i v,hlt,rfl,rfl,by simp [hus],h⟩,hS⟩
end
section
open Go Sym
theorem xg : bk Tryz.prog 62 = true:=by kernel_rfl
theorem qq : bk Tryz.prog 64 = true:=by kernel_rfl
abbrev setV (x : Nat) : Value:=.agg (setC x).toArray
theorem eqZ : ∀ n : Nat,d8 (List.replicate n (Vu 0)) (List.replicate n (Vu 0)) (List.replicate n (Vu 0)) = some true
 | 0=>rfl
 | n + 1=>by
   rw [List.replicate_succ];simp only [d8,eqZ n];rfl
theorem eqSet (x y : Nat) : d8 (setC 0) (setC x) (setC y) = some (decide (x = y)):=by
 simp only [setC,d8,eqZ 62];show some (decide ((x : Int) = y) && true) = _;rw [Bool.and_true]
 congr 1
 rw [Bool.eq_iff_iff,decide_eq_true_eq,decide_eq_true_eq];exact ⟨fun h=>by omega,fun h=>by omega⟩
theorem aff : (56 : TypeId) < Tryz.prog.types.size:=of_decide_eq_true (by kernel_rfl)
theorem ai4 : Tryz.prog.keyTypeAt 2 56 = true:=by kernel_rfl
theorem key_set : Tryz.prog.keyType 56 = true:=by kernel_rfl
theorem zc : Tryz.prog.cellsOf 56 = 63:=by kernel_rfl
theorem ahi : Tryz.prog.cellsOf 43 = 1:=by kernel_rfl
theorem afa : WideMaps.KeyLaw Tryz.prog 56:=deep_law_laid ab9 (m:=2) (by omega) aff ai4 (by rw [Tryz.underlying56])
theorem setK : Maps.Keyed Tryz.prog 56:=Maps.Keyed.of_law afa
theorem abj : Tryz.prog.underlying 116 = some (.map 56 3):=by kernel_rfl
noncomputable def setL (x : Nat) : Lit:=(keyOf Tryz.prog 56 (setV x)).getD (.bool false)
theorem agb {α β : Type} {f : α → Option β} : ∀ (l : List α),(∀ i ∈ l,(f i).isSome = true) → (l.mapM f).isSome = true
 | [],_=>rfl
 | a :: l,h=>by
   obtain ⟨b,hb⟩:=Option.isSome_iff_exists.1 (h a (List.mem_cons_self ..));obtain ⟨c,hc⟩:=Option.isSome_iff_exists.1 (agb l (fun i hi=>h i (List.mem_cons_of_mem _ hi)));rw [List.mapM_cons,hb,hc];rfl
theorem wf_u64 {n : Nat} (h : n < 18446744073709551616) : (Lit.int .u64 (n : Int)).wf = true:=by
 simp only [Lit.wf,Bool.and_eq_true,IntKind.min,IntKind.max,IntKind.bits,IntKind.signed]
 constructor <;> simp <;> omega
theorem z7 {x : Nat} (hx : x < 18446744073709551616) : keyOf Tryz.prog 56 (setV x) = some (setL x):=by
 have hs : (keyOf Tryz.prog 56 (setV x)).isSome = true:=by
  have hu:=Tryz.underlying56;have hu2:=Tryz.underlying43;obtain ⟨n,hn⟩ : ∃ n,Tryz.prog.types.size = n + 1:=⟨Tryz.prog.types.size - 1,by have h : (0 : Nat) < Tryz.prog.types.size:=Nat.lt_of_le_of_lt (Nat.zero_le _) aff; omega⟩;have hc : (setV x).cells.toList = setC x:=rfl
  have hf : (setV x).formed Tryz.prog 56 = true:=by
   simp only [Value.formed,hu];rw [zc];rfl
  have hm : (((List.range 63).mapM fun i=>Tryz.prog.keyLits (n + 1) 43 (((setC x).drop (i * Tryz.prog.cellsOf 43)).take (Tryz.prog.cellsOf 43))).map List.flatten).isSome = true:=by
   rw [Option.isSome_map];refine agb _ fun i hi=>?_;have hi:=List.mem_range.1 hi;rw [ahi,Nat.mul_one]
   have e : ((setC x).drop i).take 1 = [Vu (if i = 0 then x else 0)]:=by
    have:=kp (x:=x) hi
    rw [List.take_one,List.head?_drop,this];rfl
   rw [e];unfold Program.keyLits;simp only [hu2];rw [if_pos ⟨trivial,wf_u64 (by split <;> omega)⟩];rfl
  unfold keyOf;simp only [hu];rw [if_pos (by rw [key_set,hf]; rfl),Option.isSome_map,hc,hn];unfold Program.keyLits;simp only [hu];rw [if_pos (by rw [zc]; rfl)];exact hm
 obtain ⟨l,hl⟩:=Option.isSome_iff_exists.1 hs;rw [setL,hl]; rfl
theorem aii {x : Nat} (hx : x < 18446744073709551616) : ∀ y,setL y = setL x → y = x:=fun y h=>by
 have hkx:=z7 hx;obtain ⟨s,hs⟩:=afa.str hkx
 cases hy : keyOf Tryz.prog 56 (setV y) with
 | none=>
   rw [setL,hy,hs] at h
   cases h
 | some l=>
   rw [setL,hy] at h;have h : l = setL x:=h;rw [← h] at hkx
   have:=afa.inj hy hkx
   simp only [setV,setC,Value.agg.injEq,List.toArray_eq_toArray_eq,List.cons.injEq,Value.int.injEq,true_and,and_true] at this;omega
theorem ji {cell : Addr → Option Value} {b : Nat} : ∀ (vs : List Value) (o : Nat),(∀ j v,vs[j]? = some v → cell ⟨b,o + j,none⟩ = some v) → ca cell b o vs
 | [],_,_=>trivial
 | v :: vs,o,h=>⟨h 0 v rfl,ji vs (o + 1) fun j u hj=>by have:=h (j + 1) u hj; rwa [show o + (j + 1) = o + 1 + j by omega] at this⟩
theorem acf : ∀ (us : List Value) (n : Nat) (C : Array Value) (j : Nat),n + us.length ≤ C.size → ((us.zipIdx n).foldl (fun (cs : Array Value) (p : Value × Nat)=>cs.setIfInBounds p.2 p.1) C)[j]? = if n ≤ j ∧ j < n + us.length then us[j - n]? else C[j]?
 | [],n,C,j,_=>by
   rw [if_neg (by rw [List.length_nil]; omega)];rfl
 | u :: r,n,C,j,h=>by
   rw [List.length_cons] at h;rw [List.zipIdx_cons,List.foldl_cons,acf r (n + 1) _ j (by rw [Array.size_setIfInBounds]; omega),Array.getElem?_setIfInBounds,List.length_cons]
   by_cases e : n = j
   ·subst e;rw [if_neg (by omega),if_pos rfl,if_pos (by omega),if_pos (by omega),Nat.sub_self];rfl
   ·rw [if_neg e]
    by_cases e2 : n + 1 ≤ j ∧ j < n + 1 + r.length
    ·rw [if_pos e2,if_pos (by omega),show j - n = (j - (n + 1)) + 1 by omega,List.getElem?_cons_succ]
    ·rw [if_neg e2,if_neg (by omega)]
theorem aje {us : List Value} {C : Array Value} (h : us.length = C.size) : us.toArray.zipIdx.foldl (fun (cs : Array Value) (p : Value × Nat)=>cs.setIfInBounds (0 * 63 + p.2) p.1) C = us.toArray:=by
 rw [← Array.foldl_toList,Array.toList_zipIdx];refine Array.ext_getElem? fun j=>?_
 have:=acf us 0 C j (by omega)
 simp only [Nat.zero_mul,Nat.zero_add] at this ⊢;rw [this]
 by_cases e : j < us.length
 ·rw [if_pos ⟨Nat.zero_le _,by omega⟩];simp
 ·rw [if_neg (by omega),Array.getElem?_eq_none (by omega),List.getElem?_toArray,List.getElem?_eq_none (by omega)]
theorem fillS (x : Nat) : Instr.fill (fun i=>some (i * 63,63)) (madeCells (setC 0).toArray 63) [(0,setV x)] = some (setC x).toArray:=by
 have h : (setV x).cells = (setC x).toArray:=rfl;have hs : (setC x).toArray.size = 63:=rfl;have hm : (madeCells (setC 0).toArray 63).size = 63:=size_madeCells _ _;simp only [Instr.fill,h,hs,hm];rw [if_neg (by decide)];exact congrArg some (aje (us:=setC x) (by rw [hm]; rfl))
section
variable {base : Nat} {w0 w : World} {l : List Ow}
theorem v8 (h : Rows base w l) {i T b k : Nat} {vs : List Value} (hi : l[i]? = some (oX T b k vs)) : ca w.cell? b 0 vs:=ji vs 0 fun j v hj=>by
 rw [Nat.zero_add]; exact h.xcell hi hj
theorem zp (h : Rows base w l) {i T b k : Nat} {vs us : List Value} (hi : l[i]? = some (oX T b k (vs ++ us))) : ca w.cell? b 0 vs:=ji vs 0 fun j v hj=>by
 rw [Nat.zero_add]; exact h.xcell hi (by rw [List.getElem?_append_left (List.getElem?_eq_some_iff.1 hj).1]; exact hj)
theorem ke {w : World} {b T n : Nat} {vs : List Value} (h : OwnB w b T vs) (hn : n ≤ vs.length) : ∀ j,j < n → (w.cell? ⟨b,0 + j,none⟩).isSome = true ∧ w.frozen? ⟨b,0 + j,none⟩ = false:=fun j hj=>by
 rw [Nat.zero_add];exact ⟨by rw [h.cell (i:=j) (List.getElem?_eq_getElem (by omega))]; rfl,h.free j⟩
end
def j7 (base : Nat) (w0 w : World) (fb : Nat) (G : Nat → Prop) (s : FS) (rest : List Ow) : Prop:=
 ∃ (mb : Nat) (vf : Value) (xs : List Nat),Hold base w0 w (g7 118 fb (setC 0) mb vf :: oT vf xs :: rest) ∧ s.rows = xs.map Int.ofNat ∧ MapF setL 56 w mb xs.length (plf s) ∧ base ≤ mb ∧ ∀ x ∈ xs,G x
section
variable {base : Nat} {w0 w w' : World} {rest : List Ow} {G : Nat → Prop}
theorem j7.below {fb : Nat} {s : FS} (h : j7 base w0 w fb G s rest) (hb : RowKit.Below w.heap.size w w') : j7 base w0 w' fb G s rest:=by
 obtain ⟨mb,vf,xs,h1,h2,h3,h4⟩:=h;exact ⟨mb,vf,xs,h1.below hb,h2,h3.below hb,h4⟩
theorem j7.hold {fb : Nat} {s : FS} (h : j7 base w0 w fb G s rest) : Hold base w0 w rest:=by
 obtain ⟨mb,vf,xs,h1,h2,h3,h4⟩:=h;exact h1.tail.tail
theorem ue (h : Hold base w0 w rest) (n : Nat) :
  Calls Tryz.prog 62 #[setV 0] w fun e w'=>∃ fb,e = .returned (Vp fb) ∧ j7 base w0 w' fb G (FS.none n) rest:=by
 refine Sym.c8 (args:=[setV 0]) Tryz.func62 rfl rfl rfl (fun a0 hS0=>?_);obtain ⟨N,hN⟩ : ∃ N,N = w.heap.size:=⟨_,rfl⟩;refine wp_seq (ai [(1,Vp N)] (· = w.alloc (.cells (setC 0).toArray 56)) af hS0 ?_ (fun a w1 hS hw=>?_))
 ·subst hN;refine zB rfl ?_
  repeat refine zX rfl ?_
  exact aj ⟨⟨rfl,trivial⟩,rfl⟩
 have hp : OwnB w1 N 56 (setC 0):=by rw [hw,hN]; exact OwnB.new _ _ _
 replace h:=h.alloc (.cells (setC 0).toArray 56);rw [← hw] at h;clear hw;refine wp_seq (bg (α:=Nat) (fun fb=>[(2,Vp fb)]) (fun fb w'=>j7 base w0 w' fb G (FS.none n) rest) af hS ?_ (fun fb a w2 hS hw=>?_))
 ·have hm:=MapF.made setL 56 w1;have h1:=(h.alloc (.map #[] 0)).nil 56 63;have h2:=h1.box (T:=118) (k:=65) (setC 0 ++ [Value.map (some w1.heap.size),Value.slice none 0 0]).toArray rfl;have hcs : ca w1.cell? N 0 (setC 0):=ji _ 0 fun j v hj=>by rw [Nat.zero_add]; exact hp.cell hj
  refine zA (setC 0) rfl rfl (hcs) ?_;refine zB rfl ?_
  repeat refine zX rfl ?_
  refine zB rfl ?_
  repeat refine zX rfl ?_
  refine aj ⟨_,⟨rfl,trivial⟩,w1.heap.size,.slice none 0 0,[],h2,rfl,?_,h.s,fun x hx=>by cases hx⟩;rw [wn];exact hm.below (ao _ _)
 refine wp_ret ?_
 repeat first|refine a8 ?_|refine am ?_
 exact ret1 hS rfl rfl ⟨fb,rfl,hw⟩
end
end
section
open Go Sym
theorem ajk : bk Tryz.prog 26 = true:=by kernel_rfl
theorem ajj : bk Tryz.prog 29 = true:=by kernel_rfl
section
variable {P : Program} {T : Tab} {N : Nat} {ds : List Deferred} {ro : Option Nat}
theorem pa {α : Type} (E' : α → Env) (R : α → World → Prop) (hT : Tab.ok P T) {id : Nat} {ops : Array Oper} {Q : Exit → Act → World → Prop} {a : Act} {E : Env} {w : World} (h : StD ds N a E)
  (hk : opsK P T N ops.toList (fun E2 w2=>∃ x,Sub E2 (E' x) ∧ R x w2) ops.toList E w) (hq : ∀ x a' w',StD ds N a' (E' x) → R x w' → Q .normal a' w') : (Code.region id ops false).wpIn (WF ro) 0 P Q a w:=by
 have:=iw (ro:=ro) hT (all:=ops) (Q:=Q) (r:=[]) (fun _ _ a' ⟨x,hs,hR⟩ hS=>hq x a' _ (hS.sub hs) hR) ops.toList E w a h hk
 rw [List.append_nil] at this;exact wpIn_region_list this
theorem aki {f : FuncId} {fn : Func} {c : Code} {args : List Value} {w : World} {R : Ending → World → Prop} (hf : P.funcs[f]? = some fn) (hb : fn.body = some c) (hN : fn.ntmps = N) (hl : Nat.ble args.length N = true)
  (h : ∀ a,St N a (argE 0 args) → c.wpIn Fence.wide 0 P (bodyPostM Fence.wide 0 P fn R) a w) : Calls P f args.toArray w R:=by
 have hl':=Nat.le_of_ble_eq_true hl;refine (callsIn_wide (n:=0)).1 (callsIn_of_wp_marks hf hb trivial (h _ ⟨?_,rfl,fun t v ht=>?_⟩))
 ·simp [hN]; omega
 ·obtain ⟨j,rfl,hj⟩:=sj _ _ _ _ ht;have hlt : j < args.length:=(List.getElem?_eq_some_iff.1 hj).1;simp only [Nat.zero_add];rw [Array.getElem?_append_left (by simpa using hlt)]
  simpa using hj
theorem StD.par {a : Act} {E : Env} {t : Nat} (v : Value) (h : St N a E) (hd : k9 N (some t) = true) : StD [] N { tmps:=(#[t].zip #[v]).foldl (fun t (p,v)=>t.setIfInBounds p v) a.tmps,defers:=[] } ((t,v) :: E):=by
 have e : (#[t].zip #[v]).foldl (fun t (p,v)=>t.setIfInBounds p v) a.tmps = a.tmps.setIfInBounds t v:=by simp
 rw [e];have h2:=(h.put hd v);exact ⟨rfl,⟨h2.size,rfl,h2.has⟩⟩
theorem leave0 {fn : Func} {R : Ending → World → Prop} {a : Act} {E : Env} {w : World} {v : Value} (h : StD [] N a E) (hr : (results fn a.tmps).run P w = .ok v w) (hR : R (.returned v) w) : bodyPostM (WF none) 0 P fn R .ret a w:=by
 show LeavesInM (WF none) 0 P fn a.tmps R a.defers .returning w;rw [h.1];exact ⟨v,hr,hR⟩
def agU : Und → Bool
 | .struct _=>true
 | .arr _ _=>true
 | _=>false
theorem ahv {e : TI} (hok : e.ok P) (w : World) : (isAgg e.t).run P w = .ok (agU e.und) w:=by
 rw [jr hok w]
 cases e.und <;> rfl
theorem aby (hT : Tab.ok P T) {fn : Func} {a : Act} {E : Env} {w : World} (h : StD ds N a E) {p : Tmp} {t : TypeId} {b : Nat} {v : Value} {e : TI} (hr : fn.results = #[.cell p t]) (hl : Sym.look E p = some (Vp b)) (he : Tab.get T t = some e) (hu : agU e.und = false)
  (hc : w.cell? ⟨b,0,none⟩ = some v) : (results fn a.tmps).run P w = .ok v w:=by
 obtain ⟨rfl,hok⟩:=Tab.get_ok hT he;have hag:=ahv hok w;rw [hu] at hag;have h2 : a.tmps[p]? = some (Vp b):=h.2.has _ _ hl;simp [results,hr,h2,asAddr,loadVar,hag,load,Sem.run,hc]
theorem afj (hT : Tab.ok P T) {fn : Func} {a : Act} {E : Env} {w : World} (h : StD ds N a E) {p : Tmp} {t : TypeId} {b : Nat} {vs : List Value} {e : TI} (hr : fn.results = #[.cell p t]) (hl : Sym.look E p = some (Vp b)) (he : Tab.get T t = some e) (hu : agU e.und = true)
  (hc : ca w.cell? b 0 vs) (hn : vs.length = e.size) : (results fn a.tmps).run P w = .ok (.agg vs.toArray) w:=by
 obtain ⟨rfl,hok⟩:=Tab.get_ok hT he;have hag:=ahv hok w;rw [hu] at hag;have h2 : a.tmps[p]? = some (Vp b):=h.2.has _ _ hl
 have hcs:=run_loadCells_list (P:=P) w ⟨b,0,none⟩ vs (fun j v hj=>by
  have:=ix hc j v hj
  unfold Addr.add
  split
  ·rename_i h0; subst h0; simpa using this
  ·simpa using this)
 simp [results,hr,h2,asAddr,loadVar,hag,dz hok,← hn,hcs]
end
theorem ii {n l : Nat} {w W : World} {o : Obj} (h : RowKit.Below n w W) (hn : n ≤ W.heap.size) (hl : n ≤ l) : RowKit.Below n w (W.putObj l o):=
 h.trans ((RowKit.Below.refl n W).grown (grownBy_putObj' W l o) hn (fun k e=>by cases e; omega))
theorem fi {W : World} {b l : Nat} {T : TypeId} {vs : List Value} {o : Obj} (h : OwnB W b T vs) (hne : b ≠ l) : OwnB (W.putObj l o) b T vs:=(World.putObj_heap_other hne).trans h
theorem jz {W : World} {b l : Nat} {T : TypeId} {vs : List Value} {o : Obj} (h : OwnB W b T vs) (hl : W.heap[l]? = some o) (ho : o.isCells = false) : b ≠ l:=fun e=>by
 subst e;have h : W.heap[b]? = some (.cells vs.toArray T (0,0)):=h;rw [h] at hl
 cases hl
 cases ho
theorem keepsO {W W' : World} (h : RowKit.Below W.heap.size W W') : KeepsOthers W W':=⟨h.size,fun k _ hk _=>(h.block k (Array.getElem?_eq_some_iff.1 hk).1).trans hk⟩
theorem agl {x mb : Nat} {ve : Value} {fin : List Bool} (w : World) (hx : x < 16384) (ht : pt w) (hm : w.cell? ⟨mb,0 + 3,none⟩ = some ve) (he : ∀ y,bitP x y → ∃ g o n c,ve = .slice (some ⟨g,o,none⟩) n c ∧ y < n ∧ w.cell? ⟨g,o + y,none⟩ = some (.bool (fin.getD y false))) :
  Calls Tryz.prog 29 #[setV x,Vp mb] w fun e w'=>RowKit.Below w.heap.size w w' ∧ ∃ b,e = .returned (.bool b) ∧ (b = true ↔ ∃ j,bitP x j ∧ fin.getD j false = true):=by
 refine aki (args:=[setV x,Vp mb]) Tryz.func29 rfl rfl rfl (fun a0 hS0=>?_);refine wpIn_seq (pa (ro:=none) (α:=Nat × Nat) (fun b=>[(1,Vp mb),(2,Vp b.1),(3,Vp b.2)]) (fun b W=>RowKit.Below w.heap.size w W ∧ OwnB W b.1 56 (setC x) ∧ OwnB W b.2 4 [.bool false] ∧ b.1 < b.2 ∧ w.heap.size ≤ b.1) af (.of hS0) ?_ (fun b a w1 hS h1=>?_))
 ·have h1:=OwnB.new w (setC x) 56;have h2:=OwnB.new (w.alloc (.cells (setC x).toArray 56)) [.bool false] 4;have hb1:=ao w (.cells (setC x).toArray 56);have hb2:=ao (w.alloc (.cells (setC x).toArray 56)) (.cells [.bool false].toArray 4);refine zB rfl ?_;refine zB rfl ?_;exact aj ⟨(_,_),⟨rfl,rfl,rfl,trivial⟩,ak hb1 hb2,h1.keep hb2 h1.lt,h2,h1.lt,Nat.le_refl _⟩
 obtain ⟨s,r⟩:=b;obtain ⟨hb,h2,h3,hsr,hs⟩:=h1;dsimp only at hS h2 h3 hsr hs;refine wpIn_seq (wpIn_seq (gg (ro:=none) [(1,Vp mb),(3,Vp r),(5,.func (.func 27) #[Vp s] #[])] (· = w1) af hS ?_ (fun a w2 hS hw=>?_)))
 ·repeat refine zX rfl ?_
  exact aj ⟨⟨rfl,rfl,rfl,trivial⟩,rfl⟩
 subst hw;have hS':=hS.st;have hw1 : w.heap.size ≤ w2.heap.size:=by have:=h3.lt; omega
 refine wpIn_block (uv (b:=s) (x:=x) (by rw [← qo]; exact bi hS.2 rfl) rfl hx hS.1 (fun pre W=>RowKit.Below w.heap.size w W ∧ OwnB W s 56 (setC x) ∧ OwnB W r 4 [.bool false] ∧ ∀ y ∈ pre,fin.getD y false = false)
  (fun c pre W=>c = .ret ∧ RowKit.Below w.heap.size w W ∧ OwnB W r 4 [.bool true] ∧ ∃ y ∈ pre,fin.getD y false = true) ?_ ?_ ?_ ?_ ?_ ?_ (fun y a1=>St Tryz.f29.ntmps a1 [(1,Vp mb),(3,Vp r),(4,Vi y)]) ?_ ?_ ?_ ?_)
 ·rintro pre W W' ⟨k1,k2,k3,k4⟩ hB;exact ⟨k1.trans (hB.mono (by have:=k2.lt; omega)),k2.keep hB k2.lt,k3.keep hB k3.lt,k4⟩
 ·rintro pre W l o o' hl ⟨k1,k2,k3,k4⟩ ho hoc
  have:=h3.lt
  exact ⟨ii k1 (by have:=k2.lt; omega) (by omega),fi k2 (jz k2 ho hoc),fi k3 (jz k3 ho hoc),k4⟩
 ·rintro c pre W l o o' hl ⟨k0,k1,k3,k4⟩ ho hoc
  have:=h3.lt
  exact ⟨k0,ii k1 (by have:=k3.lt; omega) (by omega),fi k3 (jz k3 ho hoc),k4⟩
 ·rintro pre W ⟨k1,-⟩ j hj;exact keep k1 (ht j hj)
 ·rintro pre W ⟨-,k2,-⟩ k hk;rw [Nat.zero_add];exact k2.cell (kp hk)
 ·exact ⟨hb,h2,h3,by simp⟩
 ·intro l y W K hK;refine gg (ro:=some l) [(1,Vp mb),(3,Vp r),(4,Vi y)] (· = W) af (StD.par (Vi y) hS' rfl) ?_ (fun a1 W1 hS hw=>?_)
  ·repeat refine zX rfl ?_
   exact aj ⟨⟨rfl,rfl,rfl,trivial⟩,rfl⟩
  subst hw;exact hK a1 hS.st
 ·rintro l pre y W a1 hS ⟨k1,k2,k3,k4⟩ hy;obtain ⟨g,o,n,c,hve,hyn,hcell⟩:=he y hy;have hm':=keep k1 hm;rw [hve] at hm';have hc':=keep k1 hcell;refine wpIn_block (wpIn_seq (gg (ro:=some l) [(3,Vp r),(11,.bool (fin.getD y false))] (· = W) af (.of hS) ?_ (fun a2 W2 hS hw=>?_)))
  ·refine zP rfl ?_;refine zL rfl (hm') ?_
   repeat refine zX rfl ?_
   refine zI rfl (rfl) (hyn) ?_;refine zL rfl (hc') ?_
   repeat refine zX rfl ?_
   exact aj ⟨⟨rfl,rfl,trivial⟩,rfl⟩
  subst hw;refine condD hS rfl (fun hT=>?_) (fun hF=>wpIn_skip ?_)
  ·refine wpIn_seq (gg (ro:=some l) [] (fun w'=>w' = W2.setCell ⟨r,0,none⟩ (.bool true)) af hS ?_ (fun a3 W3 hS hw=>wpIn_ret ?_))
   ·refine zS rfl rfl (k3.cell (i:=0) rfl) (k3.free 0) ?_;exact aj ⟨trivial,rfl⟩
   subst hw;exact ⟨KeepsOthers.setCell _ _ _,rfl,k1.setCell (p:=⟨r,0,none⟩) (show w.heap.size ≤ r by omega) _,k3.set 0 (.bool true),y,by simp,hT⟩
  ·refine ⟨KeepsOthers.refl _,k1,k2,k3,fun z hz=>?_⟩
   rcases List.mem_append.1 hz with hz | hz
   ·exact k4 z hz
   ·rw [List.mem_singleton.1 hz]; exact hF
 ·rintro D xs W hDl hxs ⟨k1,k2,k3,k4⟩ hD;refine wpIn_seq (gg (ro:=none) [(3,Vp r)] (fun w'=>w' = W.setCell ⟨r,0,none⟩ (.bool false)) af (StD.mark hS' _) ?_ (fun a3 W3 hS hw=>wpIn_ret ?_))
  ·refine zS rfl rfl (k3.cell (i:=0) rfl) (k3.free 0) ?_;exact aj ⟨⟨rfl,trivial⟩,rfl⟩
  subst hw;have k5:=k3.set 0 (.bool false);have hD2:=(KeepsOthers.setCell W ⟨r,0,none⟩ (.bool false)).same D _ hD rfl;have k6:=fi (o:=.deferred none) k5 (jz k5 hD2 rfl);refine agf hS hD2 (aby af hS rfl rfl rfl rfl (k6.cell (i:=0) rfl)) ⟨?_,false,rfl,?_⟩
  ·exact ii (k1.setCell (p:=⟨r,0,none⟩) (show w.heap.size ≤ r by omega) _) (by have:=k5.lt; omega) (by omega)
  ·simp only [Bool.false_eq_true,false_iff,not_exists,not_and,Bool.not_eq_true];exact fun j hj=>k4 j ((hxs j).2 hj)
 ·rintro D c pre W hDl hpre ⟨rfl,k1,k3,z,hz,hz2⟩ hD;refine wpIn_ret ?_;have k6:=fi (o:=.deferred none) k3 (jz k3 hD rfl);refine agf (StD.mark hS' _) hD (aby af (StD.mark hS' _) rfl rfl rfl rfl (k6.cell (i:=0) rfl)) ⟨?_,true,rfl,?_⟩
  ·exact ii k1 (by have:=k3.lt; omega) (by omega)
  ·exact ⟨fun _=>⟨z,hpre z hz,hz2⟩,fun _=>rfl⟩
theorem zi {g x y : Nat} {v : Value} (w : World) (hc : w.cell? ⟨g,0,none⟩ = some (Vu x)) (hf : w.frozen? ⟨g,0,none⟩ = false) (hx : x < 16384) (hy : y < 16384) (hv : CkAt w v y) :
  Calls Tryz.prog 25 #[Vp g,v] w fun e w'=>e = .returned (.tuple #[]) ∧ ((y = 0 ∧ w' = w) ∨ ∃ w1,RowKit.Below w.heap.size w w1 ∧ w' = w1.setCell ⟨g,0,none⟩ (Vu (x ||| y))):=by
 refine Sym.c8 (args:=[Vp g,v]) Tryz.func25 rfl rfl rfl (fun a0 hS0=>?_);obtain ⟨av,cv,rfl⟩:=hv.len;refine wp_seq (ai [(0,Vp g),(6,.slice av (ckN y) cv),(7,Vi (ckN y)),(8,Vi (0 : Nat))] (· = w) af hS0 ?_ (fun a w1 hS hw=>?_))
 ·repeat refine zX rfl ?_
  exact aj ⟨⟨rfl,rfl,rfl,rfl,trivial⟩,rfl⟩
 subst hw;refine wp_block (cz hS (fun γ E wr=>∃ k : Nat,k ≤ ckN y ∧ γ = ckN y - k ∧ E = [(0,Vp g),(6,.slice av (ckN y) cv),(7,Vi (ckN y)),(8,Vi k)] ∧ ((k = 0 ∧ wr = w1) ∨ (k ≠ 0 ∧ ∃ u,RowKit.Below w1.heap.size w1 u ∧ wr = u.setCell ⟨g,0,none⟩ (Vu (x ||| y))))) (ckN y) ⟨0,Nat.zero_le _,rfl,rfl,.inl ⟨rfl,rfl⟩⟩ ?_);clear hS;rintro γ E wr a1 ⟨k,hk,rfl,rfl,h⟩ hS;refine wp_seq (ai [(0,Vp g),(6,.slice av (ckN y) cv),(7,Vi (ckN y)),(8,Vi k),(9,.bool (decide (k < ckN y)))] (· = wr) af hS ?_ (fun a w3 hS hw=>?_))
 ·refine zC rfl (co _ _) ?_
  repeat refine zX rfl ?_
  exact aj ⟨⟨rfl,rfl,rfl,rfl,rfl,trivial⟩,rfl⟩
 subst hw;refine wp_seq (cond hS rfl (fun hT=>wp_skip ?_) (fun hF=>?_))
 rotate_left
 ·have hge : k = ckN y:=by have:=of_decide_eq_false hF; omega
  refine wp_exit ?_
  repeat first|refine bf ?_|refine ba ?_|refine az rfl ?_
  refine ret0 hS rfl ⟨rfl,?_⟩
  rcases h with ⟨h0,h⟩ | ⟨h0,h⟩
  ·refine .inl ⟨Classical.byContradiction fun hy0=>?_,h⟩;rw [ckN,if_neg hy0] at hge;omega
  ·exact .inr h
 have hlt : k < ckN y:=of_decide_eq_true hT;have hy0 : y ≠ 0:=fun e=>by rw [ckN,if_pos e] at hlt; omega
 have hn1 : ckN y = 1:=if_neg hy0;obtain rfl : k = 0:=by omega
 obtain ⟨-,rfl⟩:=h.resolve_right (fun h=>h.1 rfl);clear h;refine wp_seq (wp_block ?_);refine wp_seq (bg (α:=Nat) (fun cb=>[(0,Vp g),(6,.slice av (ckN y) cv),(7,Vi (ckN y)),(8,Vi (0 : Nat)),(5,Vp cb)]) (fun cb w'=>Hold w3.heap.size w3 w' (oX 110 cb 2 [Vi 0,Vu y] :: [])) af hS ?_ (fun cb a w4 hS h=>?_))
 ·rcases hv with ⟨h0,_⟩ | ⟨_,b2,o2,c2,he,hc2⟩
  ·exact (hy0 h0).elim
  simp only [Value.slice.injEq] at he;obtain ⟨rfl,-,-⟩:=he;have h2:=((Hold.start w3).var (T:=110) (k:=2) [Vi 0,Vu 0] [Vi 0,Vu y] rfl rfl).1
  repeat refine zX rfl ?_
  refine zI rfl (rfl) (hlt) ?_;refine zA ([Vi 0,Vu y]) rfl rfl (hc2) ?_;refine zB rfl ?_;refine cj rfl rfl (anI rfl (anI rfl (anI (fj (OwnB.new w3 [Vi 0,Vu 0] 110)) ?_)));exact aj ⟨_,⟨rfl,rfl,rfl,rfl,rfl,trivial⟩,h2⟩
 have hgl : g < w3.heap.size:=World.block_lt_of_cell? w3 _ hc;refine d5 11 [(0,Vp g),(6,.slice av (ckN y) cv),(7,Vi (ckN y)),(8,Vi (0 : Nat))] (fun w'=>∃ u,RowKit.Below w3.heap.size w3 u ∧ w' = u.setCell ⟨g,0,none⟩ (Vu (x ||| y))) dc hS ?_ (fun a w5 hS h=>?_)
 ·have hyy : RowKit.Below w4.drew.heap.size w4.drew w4.drew:=RowKit.Below.refl _ _;have hD:=h.drew;have hcx : w4.drew.cell? ⟨g,0,none⟩ = some (Vu x):=keep hD.b hc;have hfx : w4.drew.frozen? ⟨g,0,none⟩ = false:=(World.frozen?_of_block (hD.b.block g hgl)).trans hf;refine yT 0 af rfl (by kernel_rfl) hyy rfl (rfl) ?_;refine yT 1 af rfl (by kernel_rfl) hyy rfl (rfl) ?_;refine yL 2 af rfl (by kernel_rfl) hyy rfl rfl (hD.r.xcell (i:=0) rfl (j:=0) rfl) ?_;refine yT 3 af rfl (by kernel_rfl) hyy rfl (rfl) ?_;refine yT 4 af rfl (by kernel_rfl) hyy rfl (exI _ (anI (rfl) (anI ((by decide)) rfl))) ?_;refine yL 5 af rfl (by kernel_rfl) hyy rfl rfl (hcx) ?_;refine yT 6 af rfl (by kernel_rfl) hyy rfl (rfl) ?_;refine yL 7 af rfl (by kernel_rfl) hyy rfl rfl (hD.r.xcell (i:=0) rfl (j:=1) rfl) ?_;refine yT 8 af rfl (by kernel_rfl) hyy rfl (exI _ (anI (af1 (lt64 hx) (lt64 hy)) rfl)) ?_;refine yT 9 af rfl (by kernel_rfl) hyy rfl (rfl) ?_;refine yT 10 af rfl (by kernel_rfl) hyy rfl (exI _ (anI (rfl) (anI ((by decide)) rfl))) ?_;refine bo 11 (by kernel_rfl) (ew 11 af rfl rfl rfl ?_);refine anI rfl (anI rfl (anI ⟨_,hcx⟩ (anI hfx (anI (.inl (by kernel_rfl)) ?_))));exact iq (by kernel_rfl) ⟨rfl,rfl,rfl,rfl,trivial⟩ ⟨_,hD.b,rfl⟩
 refine ay ?_;refine ai [(0,Vp g),(6,.slice av (ckN y) cv),(7,Vi (ckN y)),(8,Vi (1 : Nat))] (· = w5) af hS ?_ (fun a w6 hS hw=>?_)
 ·repeat refine zX rfl ?_
  refine zN rfl (bm 0 1 (by omega)) ?_
  repeat refine zX rfl ?_
  exact aj ⟨⟨rfl,rfl,rfl,rfl,trivial⟩,rfl⟩
 subst hw;exact ⟨ckN y - 1,_,by omega,⟨1,by omega,rfl,rfl,.inr ⟨by decide,h⟩⟩,hS⟩
end
section
open Go Sym
section
variable {base : Nat} {w0 w w' : World} {rest : List Ow} {G : Nat → Prop}
theorem oT_app (v : Value) (xs : List Nat) (x : Nat) : (⟨v,56,63,xs.length + 1,xs.flatMap setC ++ setC x⟩ : Ow) = oT v (xs ++ [x]):=by simp [oT]
set_option maxHeartbeats 2000000 in
theorem numS_r7 {fb mb B : Nat} {x : Nat} {vf : Value} {xs : List Nat} {f : Nat → Option Nat} {m : Nat} (h : Hold base w0 w (g7 118 fb (setC 0) mb vf :: oT vf xs :: rest)) (hm : MapF setL 56 w mb m f) (hp : ca w.cell? B 0 (setC x)) (hl : xs.length ≤ 100000000) {z : Int}
  {Q : Exit → Act → World → Prop} {a : Act} {ops : Array Oper} {id : Nat} (hops : Sym.da Tryz.f64.body 7 = some (id,ops))
  (hS : St Tryz.f64.ntmps a [(0,Vp fb),(3,Vp B),(5,Vi z)])
  (hq : ∀ vf' a' w',St Tryz.f64.ntmps a' [(5,Vi z)] → Hold base w0 w' (g7 118 fb (setC 0) mb vf' :: oT vf' (xs ++ [x]) :: rest) ∧ MapF setL 56 w' mb m f → Q .normal a' w') : (Code.region id ops true).wp Tryz.prog Q a w:=by
 cases hops
 refine ep (α:=Value) 7 (fun _=>[(5,Vi z)]) (fun vf' w'=>Hold base w0 w' (g7 118 fb (setC 0) mb vf' :: oT vf' (xs ++ [x]) :: rest) ∧ MapF setL 56 w' mb m f) dc hS ?_ hq;obtain ⟨gs,cs,rfl,hc⟩:=h.r.any (i:=1) rfl;have hy : RowKit.Below w.drew.heap.size w.drew w.drew:=RowKit.Below.refl _ _;have hd : RowKit.Below w.heap.size w w.drew:=(RowKit.Below.refl _ _).drew;have hD:=h.drew;have hmD:=hm.below hd;have hpD : ca w.drew.cell? B 0 (setC x):=hp;refine yG 0 af rfl (by kernel_rfl) (.inr hy) rfl rfl ?_;refine yT 1 af rfl (by kernel_rfl) hy rfl (rfl) ?_;refine yT 2 af rfl (by kernel_rfl) hy rfl (rfl) ?_;refine yT 3 af rfl (by kernel_rfl) hy rfl (rfl) ?_;refine yL 4 af rfl (by kernel_rfl) hy rfl rfl (hD.r.xcell (i:=0) rfl (j:=64) rfl) ?_;refine yT 5 af rfl (by kernel_rfl) hy rfl (exI (setC x) (anI rfl (anI (hpD) rfl))) ?_;refine bo 6 (by kernel_rfl) (y_op 6 af rfl rfl rfl rfl ?_);refine exI [(0,setV x)] (exI (setC x).toArray (anI (anI rfl rfl) (anI (by decide) (anI (fillS x) ?_))));have hy1:=hy.alloc (Nat.le_refl _) (.cells (setC x).toArray 56);refine anI (.inr hy1) ?_;have h3:=hD.alloc (.cells (setC x).toArray 56);have hm3:=hmD.below (ao w.drew (.cells (setC x).toArray 56));have hnew:=OwnB.new w.drew (setC x) 56;have hcs : ca (w.drew.alloc (.cells (setC x).toArray 56)).cell? w.drew.heap.size 0 (setC x):=ji _ 0 fun j v hj=>by rw [Nat.zero_add]; exact hnew.cell hj
 have hone : ∀ u ∈ setC x,u.oneCell' = true:=fun u hu=>by
  rcases List.mem_cons.1 hu with rfl | hu
  ·rfl
  ·rw [(List.mem_replicate.1 hu).2]; rfl
 have ask : AppAsk (w.drew.alloc (.cells (setC x).toArray 56)) ⟨56,.arr 63 43,63,504,setV 0⟩ (.slice gs xs.length cs) xs.length (xs.flatMap setC) (Vs w.drew.heap.size 1 1) 1 (setC x) base:=
  ⟨h3.r.1 1 _ rfl,.inr ⟨_,0,_,rfl,hcs⟩,rfl,hone,(by omega),(by show (xs.length + 1) * 504 ≤ _; omega),h3.s⟩
 refine bo 7 (by kernel_rfl) (y_op 7 af rfl rfl rfl rfl ?_);refine exI _ (exI _ (exI _ (exI _ (exI _ (anI (ask) (anI (fun _ h=>h.symm) (anI (by decide) ?_)))))));rintro v' w3 hown hgr - hat;refine anI (.inl (by kernel_rfl)) ?_;have h4:=h3.app (i:=1) rfl hown hgr hat;have hm4:=hm3.row h3.r (i:=1) rfl hgr;obtain ⟨g2,n2,c2,hv⟩:=df hown;subst hv;rw [oT_app] at h4;have h5 : Hold base w0 w3 (g7 118 fb (setC 0) mb (.slice gs xs.length cs) :: oT (.slice g2 n2 c2) (xs ++ [x]) :: rest):=h4;refine yG 8 af rfl (by kernel_rfl) (.inl (by kernel_rfl)) rfl rfl ?_;refine yG 9 af rfl (by kernel_rfl) (.inl (by kernel_rfl)) rfl rfl ?_;refine bo 10 (by kernel_rfl) (ew 10 af rfl rfl rfl ?_);refine anI rfl (anI rfl (anI ⟨_,h5.r.xcell (i:=0) rfl (j:=64) rfl⟩ (anI (h5.r.free (i:=0) rfl 64) (anI (.inl (by kernel_rfl)) ?_))));exact fc (.slice g2 n2 c2) (by kernel_rfl) ⟨rfl,trivial⟩ ⟨h5.xstore (i:=0) rfl 64 (.slice g2 n2 c2),hm4.store h5.r (i:=0) rfl⟩
set_option maxHeartbeats 2000000 in
theorem nz {fb n : Nat} {s : FS} (h : j7 base w0 w fb G s rest) (hI : FIn n s) (hn : n ≤ 16384) {x : Nat} (hx : x < n) (hG : x ≠ 0 → G x) :
  Calls Tryz.prog 64 #[Vp fb,setV x] w fun e w'=>e = .returned (Vi (plcM (s.num (cd 0 x)).place (cd 0 x))) ∧ j7 base w0 w' fb G (s.num (cd 0 x)) rest:=by
 refine Sym.c8 (args:=[Vp fb,setV x]) Tryz.func64 rfl rfl rfl (fun a0 hS0=>?_);obtain ⟨B,hBB⟩ : ∃ B,B = w.heap.size:=⟨_,rfl⟩;refine wp_seq (ai [(0,Vp fb),(3,Vp B)] (· = w.alloc (.cells (setC x).toArray 56)) af hS0 ?_ (fun a w1 hS hw=>?_))
 ·subst hBB;refine zB rfl ?_
  repeat refine zX rfl ?_
  exact aj ⟨⟨rfl,rfl,trivial⟩,rfl⟩
 obtain ⟨mb,vf,xs,h,hrs,hm,hb,hin⟩:=h;have hcap:=hI.ok.cap;replace h:=(h.box (T:=56) (k:=63) (setC x).toArray rfl).perm (List.Perm.trans (.swap _ _ _) (.cons _ (.swap _ _ _)));replace hm:=hm.below (ao w (.cells (setC x).toArray 56));rw [← hw,← hBB] at h;rw [← hw] at hm;clear hw;have hx64 : x < 18446744073709551616:=by omega
 have bx : ∀ {w' : World} {vf : Value} {xs : List Nat},Hold base w0 w' (g7 118 fb (setC 0) mb vf :: oT vf xs :: oX 56 B 63 (setC x) :: rest) → ca w'.cell? B 0 (setC x):=fun h=>v8 h.r (i:=2) rfl;have hxl : s.rows.length = xs.length:=by rw [hrs,List.length_map]
 refine wp_seq (wp_seq (b6 [(0,Vp fb),(3,Vp B),(12,.bool (decide (x = 0)))] af dc (by kernel_rfl) hS ?_ (fun a w2 hS hw=>?_)))
 ·have hc0 : ca w1.cell? fb 0 (setC 0):=zp h.r (i:=0) (vs:=setC 0) rfl;refine qA (setC x) rfl rfl (bx h) ?_
  repeat refine qX rfl ?_
  refine qA (setC 0) rfl rfl (hc0) ?_;refine qQ rfl (eqSet x 0) ?_
  repeat refine qX rfl ?_
  exact fa ⟨rfl,rfl,rfl,trivial⟩
 replace h:=h.below hw;replace hm:=hm.below hw;clear hw;refine cond hS rfl (fun hT=>?_) (fun hF=>wp_skip ?_)
 ·have hx0 : x = 0:=of_decide_eq_true hT;have e : cd 0 x = -1:=if_pos hx0;refine wp_seq (ai [(4,Vi (-1))] (· = w2) af hS ?_ (fun a w3 hS hw=>?_))
  ·repeat refine zX rfl ?_
   exact aj ⟨⟨rfl,trivial⟩,rfl⟩
  subst hw;have e2 : s.num (-1) = s:=by rw [FS.num,if_neg (by omega)]
  rw [e,e2];refine wp_ret ?_
  repeat first|refine a8 ?_|refine am ?_
  exact ret1 hS rfl rfl ⟨rfl,mb,vf,xs,h.erase 2,hrs,hm,hb,hin⟩
 have hne : x ≠ 0:=of_decide_eq_false hF;refine wp_seq (d5 11 [(0,Vp fb),(3,Vp B),(5,Vi (((plf s x).getD 0 : Nat) : Int)),(6,.bool (plf s x).isSome)] (fun w'=>RowKit.Below w2.heap.size w2 w') dc hS ?_ (fun a w3 hS hw=>?_))
 ·have hy : RowKit.Below w2.drew.heap.size w2.drew w2.drew:=RowKit.Below.refl _ _;have hd : RowKit.Below w2.heap.size w2 w2.drew:=(RowKit.Below.refl _ _).drew;have hD:=h.drew;have hmD:=hm.below hd;refine yT 0 af rfl (by kernel_rfl) hy rfl (rfl) ?_;refine yT 1 af rfl (by kernel_rfl) hy rfl (rfl) ?_;refine yT 2 af rfl (by kernel_rfl) hy rfl (rfl) ?_;refine yL 3 af rfl (by kernel_rfl) hy rfl rfl (hD.r.xcell (i:=0) rfl (j:=63) rfl) ?_;refine yT 4 af rfl (by kernel_rfl) hy rfl (exI (setC x) (anI rfl (anI (bx hD) rfl))) ?_;refine bo 5 (by kernel_rfl) (y_op 5 af rfl rfl rfl rfl ?_);refine ⟨_,MapF.look (kv:=setV) hmD setK abj x (z7 hx64),?_⟩;refine anI (.inr hy) ?_;refine yT 6 af rfl (by kernel_rfl) hy rfl (rfl) ?_;refine yT 7 af rfl (by kernel_rfl) hy rfl (rfl) ?_;refine yT 8 af rfl (by kernel_rfl) hy rfl (rfl) ?_;refine yT 9 af rfl (by kernel_rfl) hy rfl (rfl) ?_;refine yT 10 af rfl (by kernel_rfl) hy rfl (rfl) ?_;exact iq (by kernel_rfl) ⟨rfl,rfl,rfl,rfl,trivial⟩ hd
 replace h:=h.below hw;replace hm:=hm.below hw;clear hw;refine wp_seq (wp_seq (ai [(0,Vp fb),(3,Vp B),(5,Vi (((plf s x).getD 0 : Nat) : Int)),(23,.bool (!(plf s x).isSome))] (· = w3) af hS ?_ (fun a w4 hS hw=>?_)))
 ·repeat refine zX rfl ?_
  exact aj ⟨⟨rfl,rfl,rfl,rfl,trivial⟩,rfl⟩
 subst hw
 by_cases h0 : s.place.getD x (-1) < 0
 ·obtain ⟨k1,k2,k3⟩:=wu (nb:=0) hI hx hne h0;have hpn : plf s x = none:=by rw [plf,if_neg (by omega)]
  rw [hpn] at hS;refine cond hS rfl (fun hT=>?_) (fun hF=>by cases hF);refine wp_seq (ai [(0,Vp fb),(3,Vp B),(5,Vi xs.length)] (· = w4) af hS ?_ (fun a w5 hS hw=>?_))
  ·obtain ⟨g,c,rfl,-,-⟩:=h.r.any (i:=1) rfl
   repeat refine zX rfl ?_
   refine zL rfl (h.r.xcell (i:=0) rfl (j:=64) rfl) ?_
   repeat refine zX rfl ?_
   exact aj ⟨⟨rfl,rfl,rfl,trivial⟩,rfl⟩
  subst hw;refine wp_seq (d5 6 [(0,Vp fb),(3,Vp B),(5,Vi xs.length)] (fun w'=>Hold base w0 w' (g7 118 fb (setC 0) mb vf :: oT vf xs :: oX 56 B 63 (setC x) :: rest) ∧ MapF setL 56 w' mb (xs.length + 1) (plf (s.num (cd 0 x)))) dc hS ?_ (fun a w6 hS hw=>?_))
  ·have hy : RowKit.Below w5.drew.heap.size w5.drew w5.drew:=RowKit.Below.refl _ _;have hd : RowKit.Below w5.heap.size w5 w5.drew:=(RowKit.Below.refl _ _).drew;have hD:=h.drew;have hmD:=hm.below hd;refine yT 0 af rfl (by kernel_rfl) hy rfl (rfl) ?_;refine yT 1 af rfl (by kernel_rfl) hy rfl (rfl) ?_;refine yT 2 af rfl (by kernel_rfl) hy rfl (rfl) ?_;refine yL 3 af rfl (by kernel_rfl) hy rfl rfl (hD.r.xcell (i:=0) rfl (j:=63) rfl) ?_;refine yT 4 af rfl (by kernel_rfl) hy rfl (exI (setC x) (anI rfl (anI (bx hD) rfl))) ?_;refine yT 5 af rfl (by kernel_rfl) hy rfl (rfl) ?_;refine bo 6 (by kernel_rfl) (ew 6 af rfl rfl rfl ?_);obtain ⟨w',g1,g2,g3⟩:=MapF.put (kv:=setV) hmD setK abj (by unfold maxLen; omega) x (z7 hx64) (aii hx64) (v:=xs.length) (by omega);refine ⟨w',g1,?_⟩;refine anI (.inl (by kernel_rfl)) ?_;refine iq (by kernel_rfl) ⟨rfl,rfl,rfl,trivial⟩ ⟨hD.map hmD hb g3,by rw [k3,hxl]; exact g2⟩
  obtain ⟨h,hm⟩:=hw;refine numS_r7 h hm (bx h) (by omega) rfl hS (fun vf' a w7 hS hw=>?_);obtain ⟨h,hm⟩:=hw;refine wp_seq (ai [(4,Vi xs.length)] (· = w7) af hS ?_ (fun a w8 hS hw=>?_))
  ·repeat refine zX rfl ?_
   exact aj ⟨⟨rfl,trivial⟩,rfl⟩
  subst hw;refine wp_ret ?_
  repeat first|refine a8 ?_|refine am ?_
  refine ret1 hS rfl rfl ⟨by rw [k2,hxl],mb,vf',xs ++ [x],h.erase 2,?_,?_,hb,fun y hy=>?_⟩
  ·rw [k1,hrs]; simp
  ·rw [List.length_append]; exact hm
  ·rcases List.mem_append.1 hy with hy | hy
   ·exact hin y hy
   ·rw [List.mem_singleton.1 hy]; exact hG hne
 ·obtain ⟨k1,k2⟩:=sg (nb:=0) hI hx hne h0;have hps : (plf s x).isSome = true:=by rw [plf,if_pos (by omega)]; rfl
  rw [hps] at hS;refine cond hS rfl (fun hT=>by cases hT) (fun hF=>wp_skip ?_);refine wp_seq (ai [(4,Vi (((plf s x).getD 0 : Nat) : Int))] (· = w4) af hS ?_ (fun a w5 hS hw=>?_))
  ·repeat refine zX rfl ?_
   exact aj ⟨⟨rfl,trivial⟩,rfl⟩
  subst hw;rw [k1,k2];refine wp_ret ?_
  repeat first|refine a8 ?_|refine am ?_
  exact ret1 hS rfl rfl ⟨rfl,mb,vf,xs,h.erase 2,hrs,hm,hb,hin⟩
end
end
section
open Go Sym
theorem adx : bk Tryz.prog 63 = true:=by kernel_rfl
section
variable {base : Nat} {w0 w w' : World} {l rest : List Ow} {G : Nat → Prop}
theorem ab3 (h : Hold base w0 w l) {i g n c : Nat} {xs : List Nat} (hi : l[i]? = some (oT (Vs g n c) xs)) {s : Nat} (hs : s < xs.length) : ca w.cell? g (0 + s * 63) (setC (gt xs s)):=
 ji _ _ fun j v hj=>by
  have hj63 : j < 63:=by have:=(List.getElem?_eq_some_iff.1 hj).1; rwa [jx] at this
  rw [kp hj63] at hj;rw [← Option.some.inj hj];exact (qg h hi hs).2.2 j hj63
set_option maxHeartbeats 1000000 in
theorem aab {n fb L lim S x0 : Nat} {caps : Array Value} {next : List (List Int)} {F : FS} (h : j7 base w0 w fb G (FS.none n) rest) (hn : n ≤ 16384) (hnl : next.length = n) (hx0 : x0 < n) (hG0 : x0 ≠ 0 → G x0) (hL : L ≤ 100000) (hlim : 1 ≤ lim) (hlim2 : lim ≤ 1000000)
  (hr : ∀ r : Int,0 ≤ r → r < n → ∀ c,c < L → -1 ≤ tgtM next r c ∧ tgtM next r c < n) (hen : bk Tryz.prog S = true)
  (hstep : ∀ (y c : Nat) (w : World),G y → c < L → Hold base w0 w rest → Calls Tryz.prog S ([setV y,Vi c] ++ caps.toList).toArray w fun e w'=>∃ z : Nat,z < n ∧ (z ≠ 0 → G z) ∧ e = .returned (setV z) ∧ tgtM next (y : Int) c = cd 0 z ∧ RowKit.Below w.heap.size w w')
  (hF : d7 (cd 0 x0) next L = F) :
  Calls Tryz.prog 63 #[Vp fb,setV x0,Vi L,Vi lim,.func (.func S) #[] caps] w fun e w'=>∃ (vn : Value) (vs : List Value),(F.rows.length ≤ lim ∧ e = .returned (.tuple #[vn,.bool true]) ∧ vs.length = F.rows.length ∧ FIn n F ∧ j7 base w0 w' fb G F (dk vn vs (F.rows.map (bj F.place next L)) ++ rest)) ∨ (lim < F.rows.length ∧ e = .returned (.tuple #[vn,.bool false]) ∧ Hold base w0 w' rest):=by
 refine Sym.c8 (args:=[Vp fb,setV x0,Vi L,Vi lim,.func (.func S) #[] caps]) Tryz.func63 rfl rfl rfl (fun a0 hS0=>?_);obtain ⟨B,hBB⟩ : ∃ B,B = w.heap.size:=⟨_,rfl⟩;refine wp_seq (ai [(0,Vp fb),(2,Vi L),(3,Vi lim),(4,.func (.func S) #[] caps),(6,Vp B),(10,.slice none 0 0)] (· = w.alloc (.cells (setC x0).toArray 56)) af hS0 ?_ (fun a w1 hS hw=>?_))
 ·subst hBB;refine zB rfl ?_
  repeat refine zX rfl ?_
  exact aj ⟨⟨rfl,rfl,rfl,rfl,rfl,rfl,trivial⟩,rfl⟩
 have hp : ca w1.cell? B 0 (setC x0):=by
  have ho:=OwnB.new w (setC x0) 56;rw [hw,hBB];exact ji _ 0 fun j v hj=>by rw [Nat.zero_add]; exact ho.cell hj
 replace h:=h.below (ao w (.cells (setC x0).toArray 56));rw [← hw] at h;clear hw;have hc0:=ul (nb:=0) hx0;have hI0:=(FIn.none n).num hc0.2 hc0.1
 have hlim0 : ((FS.none n).num (cd 0 x0)).rows.length ≤ lim:=by
  rw [FS.num]
  split <;> simp [FS.none] <;> omega
 refine wp_scope_straight (wp_seq (ai [(0,Vp fb),(2,Vi L),(3,Vi lim),(4,.func (.func S) #[] caps),(10,.slice none 0 0)] (fun w'=>j7 base w0 w' fb G ((FS.none n).num (cd 0 x0)) rest) af hS ?_ (fun a w2 hS h=>?_)))
 ·repeat refine zX rfl ?_
  refine zA (setC x0) rfl rfl (hp) ?_;refine zF rfl (qq) (nz h (FIn.none n) hn hx0 hG0) ?_;rintro e w2 ⟨rfl,h2⟩;refine ⟨_,rfl,?_⟩
  repeat refine zX rfl ?_
  exact aj ⟨⟨rfl,rfl,rfl,rfl,rfl,trivial⟩,h2⟩
 refine wp_seq (wp_label ?_);refine wp_seq (wp_seq (ai [(0,Vp fb),(2,Vi L),(3,Vi lim),(4,.func (.func S) #[] caps),(10,.slice none 0 0),(12,Vi (0 : Nat))] (· = w2) af hS ?_ (fun a w3 hS hw=>?_)))
 ·repeat refine zX rfl ?_
  exact aj ⟨⟨rfl,rfl,rfl,rfl,rfl,rfl,trivial⟩,rfl⟩
 subst hw;obtain ⟨mb,vf,xs,h,hrs,hm,hb,hin⟩:=h;have hne:=(h.nil 34 1).perm (List.Perm.trans (.swap _ _ _) (.cons _ (.swap _ _ _)))
 refine wp_block (cz hS (fun g E w'=>∃ (i : Nat) (s : FS) (vn : Value) (vs : List Value),E = [(0,Vp fb),(2,Vi L),(3,Vi lim),(4,.func (.func S) #[] caps),(10,vn),(12,Vi i)] ∧ FIn n s ∧ s.rows.length ≤ lim ∧ i ≤ s.rows.length ∧ dg next L g i s = F ∧ n ≤ g + i ∧ vs.length = i ∧ j7 base w0 w' fb G s (dk vn vs ((s.rows.take i).map (bj F.place next L)) ++ rest)) n
  ⟨0,_,_,[],rfl,hI0.1,hlim0,Nat.zero_le _,by rw [← hF,js (by rw [hnl]; exact hc0.2) hc0.1,hnl],by omega,rfl,mb,vf,xs,hne,hrs,hm,hb,hin⟩ ?_)
 clear hS h hne hrs hm hb hin;rintro g E w4 a ⟨i,s,vn,vs,rfl,hI,hsl,hi,hgo,hg,hvs,h⟩ hS;have hcap:=hI.ok.cap;refine wp_seq (wp_seq (ai [(0,Vp fb),(2,Vi L),(3,Vi lim),(4,.func (.func S) #[] caps),(10,vn),(12,Vi i),(24,.bool (decide (i < s.rows.length)))] (· = w4) af hS ?_ (fun a w5 hS hw=>?_)))
 ·obtain ⟨mb,vf,xs,h,hrs,hm,hb,hin⟩:=h;have hxl : s.rows.length = xs.length:=by rw [hrs,List.length_map]
  obtain ⟨gf,cf,rfl,-,-⟩:=h.r.any (i:=1) rfl;rw [hxl]
  repeat refine zX rfl ?_
  refine zL rfl (h.r.xcell (i:=0) rfl (j:=64) rfl) ?_
  repeat refine zX rfl ?_
  refine zC rfl (co _ _) ?_
  repeat refine zX rfl ?_
  exact aj ⟨⟨rfl,rfl,rfl,rfl,rfl,rfl,rfl,trivial⟩,rfl⟩
 subst hw;refine cond hS rfl (fun hT=>wp_skip ?_) (fun hF'=>?_)
 rotate_left
 ·have hii : s.rows.length ≤ i:=by have:=of_decide_eq_false hF'; omega
  have hsF : s = F:=by rw [← hgo,ob hii]
  have hie : i = s.rows.length:=by omega
  rw [hie,List.take_length] at h;subst hsF;refine wp_exit ?_
  repeat first|refine bf ?_|refine ba ?_|refine az rfl ?_
  refine wp_seq (b6 [(10,vn),(11,.bool true)] af dc (by kernel_rfl) hS ?_ (fun a w6 hS hw=>?_))
  ·obtain ⟨mb,vf,xs,h,hrs,hm,hb,hin⟩:=h;have hxl : s.rows.length = xs.length:=by rw [hrs,List.length_map]
   obtain ⟨gf,cf,rfl,-,-⟩:=h.r.any (i:=1) rfl
   repeat refine qX rfl ?_
   refine qL rfl (h.r.xcell (i:=0) rfl (j:=64) rfl) ?_
   repeat refine qX rfl ?_
   refine qC rfl (decide_eq_true (show (xs.length : Int) ≤ (lim : Int) by omega)) ?_
   repeat refine qX rfl ?_
   exact fa ⟨rfl,rfl,trivial⟩
  refine wp_ret ?_
  repeat first|refine a8 ?_|refine am ?_
  exact n8 (ret2 hS rfl rfl rfl ⟨vn,vs,.inl ⟨hsl,rfl,by omega,hI,h.below hw⟩⟩)
 have hii : i < s.rows.length:=of_decide_eq_true hT;obtain ⟨g,rfl⟩ : ∃ g',g = g' + 1:=⟨g - 1,by omega⟩;rw [l0 hii] at hgo;obtain ⟨r,hre⟩ : ∃ r,r = s.rows.getD i 0:=⟨_,rfl⟩;have hri : s.rows[i] = r:=by rw [hre]; simp [List.getD_eq_getElem?_getD,hii]
 rw [← hre] at hgo;obtain ⟨hr0,hrn,-⟩:=hI.ok.r r (by rw [← hri]; exact List.getElem_mem hii);have hrt:=hr r hr0 hrn;obtain ⟨hIL,hLL⟩:=jo hI hrt L (Nat.le_refl _)
 have hrl : s.rows.length ≤ (FS.row next r L s).rows.length:=by
  have:=hLL.rows (s.rows.length - 1) s.rows[s.rows.length - 1] (by simp)
  have:=(List.getElem?_eq_some_iff.1 this).1
  omega
 have hFl : FLe n (FS.row next r L s) F:=by
  rw [← hgo];exact (kj (L:=L) hr g (i + 1) _ hIL (by omega) (by omega)).2.1
 have hva : ∀ c,c < L → plcM ((FS.row next r c s).num (tgtM next r c)).place (tgtM next r c) = plcM F.place (tgtM next r c):=fun c hc=>se hI hrt hc hFl;obtain ⟨v,hve⟩ : ∃ v : Nat → Int,v = fun c=>plcM F.place (tgtM next r c):=⟨_,rfl⟩;obtain ⟨NR,hNR⟩ : ∃ NR,NR = dk vn vs ((s.rows.take i).map (bj F.place next L)) ++ rest:=⟨_,rfl⟩;rw [← hNR] at h;have hNRr : ∀ {w'},Hold base w0 w' NR → Hold base w0 w' rest:=fun h=>by rw [hNR] at h; exact h.drop
 refine wp_seq (wp_block (wp_seq (bg (α:=Nat) (fun gc=>[(0,Vp fb),(2,Vi L),(3,Vi lim),(4,.func (.func S) #[] caps),(10,vn),(12,Vi i),(13,Vs gc L L)]) (fun gc w'=>j7 base w0 w' fb G s (oI (Vs gc L L) (rowZ L 0 v) :: NR)) af hS ?_ (fun gc a w6 hS h=>?_))))
 ·obtain ⟨mb,vf,xs,h,hrs,hm,hb,hin⟩:=h;have h2:=(h.makeI (n:=L) (by omega)).perm (List.Perm.trans (.swap _ _ _) (.cons _ (.swap _ _ _)));rw [afh L v] at h2
  repeat refine zX rfl ?_
  refine zM (L) rfl rfl rfl rfl rfl ((by show 8 * _ ≤ _; omega)) ((by omega)) ?_
  repeat refine zX rfl ?_
  exact aj ⟨_,⟨rfl,rfl,rfl,rfl,rfl,rfl,rfl,trivial⟩,mb,vf,xs,h2,hrs,hm.below (ao _ _),hb,hin⟩
 refine wp_seq (wp_seq (ai [(0,Vp fb),(2,Vi L),(3,Vi lim),(4,.func (.func S) #[] caps),(10,vn),(12,Vi i),(13,Vs gc L L),(29,Vi L),(30,Vi (0 : Nat))] (· = w6) af hS ?_ (fun a w7 hS hw=>?_)))
 ·repeat refine zX rfl ?_
  exact aj ⟨⟨rfl,rfl,rfl,rfl,rfl,rfl,rfl,rfl,rfl,trivial⟩,rfl⟩
 subst hw;refine wp_block (cz hS (fun γ E w'=>∃ c : Nat,c ≤ L ∧ γ = L - c ∧ E = [(0,Vp fb),(2,Vi L),(3,Vi lim),(4,.func (.func S) #[] caps),(10,vn),(12,Vi i),(13,Vs gc L L),(29,Vi L),(30,Vi c)] ∧ (FS.row next r c s).rows.length ≤ lim ∧ j7 base w0 w' fb G (FS.row next r c s) (oI (Vs gc L L) (rowZ L c v) :: NR)) L ⟨0,by omega,by omega,rfl,hsl,h⟩ ?_);clear hS h;rintro γ E w8 a ⟨c,hc,rfl,rfl,hcl,h⟩ hS;refine wp_seq (ai [(0,Vp fb),(2,Vi L),(3,Vi lim),(4,.func (.func S) #[] caps),(10,vn),(12,Vi i),(13,Vs gc L L),(29,Vi L),(30,Vi c),(31,.bool (decide (c < L)))] (· = w8) af hS ?_ (fun a w9 hS hw=>?_))
 ·repeat refine zX rfl ?_
  refine zC rfl (co _ _) ?_
  repeat refine zX rfl ?_
  exact aj ⟨⟨rfl,rfl,rfl,rfl,rfl,rfl,rfl,rfl,rfl,rfl,trivial⟩,rfl⟩
 subst hw;refine wp_seq (cond hS rfl (fun hT=>wp_skip ?_) (fun hF'=>?_))
 rotate_left
 ·have hcc : L = c:=by have:=of_decide_eq_false hF'; omega
  subst hcc;refine wp_exit ?_
  repeat first|refine bf ?_|refine ba ?_|refine az rfl ?_
  rw [afg,hve] at h;refine bg (α:=Value) (fun vn'=>[(0,Vp fb),(2,Vi L),(3,Vi lim),(4,.func (.func S) #[] caps),(10,vn'),(12,Vi i)]) (fun vn' w'=>j7 base w0 w' fb G (FS.row next r L s) (dk vn' (vs ++ [Vs gc L L]) ((s.rows.take (i + 1)).map (bj F.place next L)) ++ rest)) af hS ?_ (fun vn' a w10 hS h=>?_)
  ·obtain ⟨mb,vf,xs,h,hrs,hm,hb,hin⟩:=h;subst hNR;obtain ⟨gvp,cvp,rfl,-⟩:=h.r.any (i:=3) (v:=vn) (e:=34) (s:=1) (n:=vs.length) (xs:=vs) rfl
   repeat refine zX rfl ?_
   refine b8 rfl rfl rfl ?_;refine exI [(0,Vs gc L L)] (exI #[Vs gc L L] (anI (anI rfl rfl) (anI (by decide) (anI (uh _ _ _ _) ?_))));have hal:=ao w9 (.cells #[Vs gc L L] 34);have h3:=h.alloc (.cells #[Vs gc L L] 34);have hm4:=hm.below hal
   have ask : AppAsk (w9.alloc (.cells #[Vs gc L L] 34)) ⟨34,.slice 3,1,24,.slice none 0 0⟩ (.slice gvp vs.length cvp) vs.length vs (Vs w9.heap.size 1 1) 1 [Vs gc L L] base:=
    ⟨h3.r.1 3 _ rfl,.inr ⟨_,0,_,rfl,ax rfl,trivial⟩,rfl,(by simp [Value.oneCell']),(by omega),(by show (vs.length + 1) * 24 ≤ _; omega),h3.s⟩
   refine b8 rfl rfl rfl ?_;refine exI _ (exI _ (exI _ (exI _ (exI _ (anI (ask) (anI (fun _ h=>h.symm) (anI (by decide) ?_)))))));rintro v' w16 hown2 hgr - hat;have h4:=h3.app (i:=3) rfl hown2 hgr hat;have hm5:=hm4.row h3.r (i:=3) rfl hgr
   repeat refine zX rfl ?_
   refine aj ⟨v',⟨rfl,rfl,rfl,rfl,rfl,rfl,trivial⟩,mb,vf,xs,?_,hrs,hm5,hb,hin⟩;have hlen : vs.length = ((s.rows.take i).map (bj F.place next L)).length:=by simp; omega
   rw [List.take_succ_eq_append_getElem hii,List.map_append,List.map_singleton,mo hlen,hri];refine h4.perm ?_;obtain ⟨Z,hZ⟩ : ∃ Z,Z = List.zipWith (fun v l=>oI v l) vs ((s.rows.take i).map (bj F.place next L)):=⟨_,rfl⟩;show List.Perm (_ :: _ :: oI (Vs gc L L) ((List.range L).map fun d=>plcM F.place (tgtM next r d)) :: _ :: (List.zipWith (fun v l=>oI v l) vs ((s.rows.take i).map (bj F.place next L)) ++ rest)) (_ :: _ :: _ :: ((List.zipWith (fun v l=>oI v l) vs ((s.rows.take i).map (bj F.place next L)) ++ [oI (Vs gc L L) (bj F.place next L r)]) ++ rest));rw [← hZ];refine .cons _ (.cons _ ((List.Perm.swap _ _ _).trans (.cons _ ?_)));rw [List.append_assoc];exact (List.perm_middle (l₁:=Z) (l₂:=rest)).symm
  refine ay ?_;refine ai [(0,Vp fb),(2,Vi L),(3,Vi lim),(4,.func (.func S) #[] caps),(10,vn'),(12,Vi (i + 1 : Nat))] (· = w10) af hS ?_ (fun a w11 hS hw=>?_)
  ·repeat refine zX rfl ?_
   refine zN rfl (bm i 1 (by omega)) ?_
   repeat refine zX rfl ?_
   exact aj ⟨⟨rfl,rfl,rfl,rfl,rfl,rfl,trivial⟩,rfl⟩
  subst hw;refine ⟨g,_,by omega,⟨i + 1,FS.row next r L s,vn',vs ++ [Vs gc L L],rfl,hIL,hcl,by omega,hgo,by omega,by simp [hvs],?_⟩,hS⟩
  have e : (FS.row next r L s).rows.take (i + 1) = s.rows.take (i + 1):=by
   refine List.ext_getElem (by simp; omega) fun j h1 h2=>?_;have hj : j < s.rows.length:=by simp at h2; omega
   have:=hLL.rows j s.rows[j] (by simp [hj])
   simp only [List.getElem_take];exact (List.getElem?_eq_some_iff.1 this).2
  rw [e]; exact h
 have hcc : c < L:=of_decide_eq_true hT;obtain ⟨hIc,-⟩:=jo hI hrt c (by omega);obtain ⟨hIc1,hLc⟩:=jo hI hrt (c + 1) (by omega);refine wp_seq (wp_block (wp_seq (ai [(0,Vp fb),(2,Vi L),(3,Vi lim),(4,.func (.func S) #[] caps),(10,vn),(12,Vi i),(13,Vs gc L L),(29,Vi L),(30,Vi c),(14,Vi c)] (· = w9) af hS ?_ (fun a w10 hS hw=>?_))))
 ·repeat refine zX rfl ?_
  exact aj ⟨⟨rfl,rfl,rfl,rfl,rfl,rfl,rfl,rfl,rfl,rfl,trivial⟩,rfl⟩
 subst hw;refine wp_seq (ai [(0,Vp fb),(2,Vi L),(3,Vi lim),(4,.func (.func S) #[] caps),(10,vn),(12,Vi i),(13,Vs gc L L),(29,Vi L),(30,Vi c)] (fun w'=>j7 base w0 w' fb G (FS.row next r (c + 1) s) (oI (Vs gc L L) (rowZ L (c + 1) v) :: NR)) af hS ?_ (fun a w11 hS h=>?_))
 ·obtain ⟨mb,vf,xs,h,hrs,hm,hb,hin⟩:=h;obtain ⟨-,hLc0⟩:=jo hI hrt c (by omega);have hxl : (FS.row next r c s).rows.length = xs.length:=by rw [hrs,List.length_map]
  have hir:=hLc0.rows i r (by rw [← hri]; simp [hii]);obtain ⟨hi2,hir2⟩:=List.getElem?_eq_some_iff.1 hir;have hix : i < xs.length:=by omega
  obtain ⟨y,hye⟩ : ∃ y,y = xs[i]:=⟨_,rfl⟩
  have hyr : ((y : Nat) : Int) = r:=by
   rw [← hir2,hye];simp only [hrs,List.getElem_map];rfl
  have hyn : G y:=by rw [hye]; exact hin _ (List.getElem_mem hix)
  obtain ⟨gf,cf,rfl,-⟩:=h.r.nilOr (i:=1) rfl (by omega);have hcell:=ab3 h (i:=1) rfl hix;rw [show gt xs i = y by rw [hye]; simp [gt,List.getD_eq_getElem?_getD,hix]] at hcell
  repeat refine zX rfl ?_
  refine zL rfl (h.r.xcell (i:=0) rfl (j:=64) rfl) ?_
  repeat refine zX rfl ?_
  refine zI rfl (rfl) (hix) ?_;refine zA (setC y) rfl rfl (hcell) ?_
  repeat refine zX rfl ?_
  refine zF rfl (hen) (hstep y c w10 hyn hcc (hNRr h.tail.tail.tail)) ?_;rintro e w11 ⟨z,hzn,hzG,rfl,hzt,hw⟩;refine ⟨_,rfl,?_⟩;rw [hyr] at hzt;have hfn : j7 base w0 w11 fb G (FS.row next r c s) (oI (Vs gc L L) (rowZ L c v) :: NR):=⟨mb,_,xs,h.below hw,hrs,hm.below hw,hb,hin⟩
  repeat refine zX rfl ?_
  refine zF rfl (qq) (nz hfn hIc hn hzn hzG) ?_;rintro e w12 ⟨rfl,h12⟩;refine ⟨_,rfl,?_⟩;rw [← hzt,hva c hcc];rw [← hzt,← FS.step_num,← FS.row_succ] at h12;obtain ⟨mb,vf,xs,h,hrs,hm,hb,hin⟩:=h12;have hzl : c < (rowZ L c v).length:=by rw [wk]; exact hcc
  have hst:=h.storeI (i:=2) rfl c (plcM F.place (tgtM next r c));rw [show (rowZ L c v).set c (plcM F.place (tgtM next r c)) = rowZ L (c + 1) v by rw [← wj v hcc,hve]] at hst
  repeat refine zX rfl ?_
  refine zI rfl (rfl) (hcc) ?_;refine zS rfl rfl (h.r.cellI (i:=2) rfl hzl) (h.r.free (i:=2) rfl _) ?_;exact aj ⟨⟨rfl,rfl,rfl,rfl,rfl,rfl,rfl,rfl,rfl,trivial⟩,mb,vf,xs,hst,hrs,hm.store h.r (i:=2) rfl,hb,hin⟩
 refine wp_seq (ai [(0,Vp fb),(2,Vi L),(3,Vi lim),(4,.func (.func S) #[] caps),(10,vn),(12,Vi i),(13,Vs gc L L),(29,Vi L),(30,Vi c),(54,.bool (decide (lim < (FS.row next r (c + 1) s).rows.length)))] (· = w11) af hS ?_ (fun a w12 hS hw=>?_))
 ·obtain ⟨mb,vf,xs,h,hrs,hm,hb,hin⟩:=h;have hxl : (FS.row next r (c + 1) s).rows.length = xs.length:=by rw [hrs,List.length_map]
  have:=hIc1.ok.cap
  obtain ⟨gf,cf,rfl,-,-⟩:=h.r.any (i:=1) rfl;rw [hxl]
  repeat refine zX rfl ?_
  refine zL rfl (h.r.xcell (i:=0) rfl (j:=64) rfl) ?_
  repeat refine zX rfl ?_
  refine zC rfl (co _ _) ?_
  repeat refine zX rfl ?_
  exact aj ⟨⟨rfl,rfl,rfl,rfl,rfl,rfl,rfl,rfl,rfl,rfl,trivial⟩,rfl⟩
 subst hw;refine cond hS rfl (fun hT5=>?_) (fun hF'=>wp_skip ?_)
 ·have hmore : lim < (FS.row next r (c + 1) s).rows.length:=of_decide_eq_true hT5;have hle:=(abw hI hrt (c + 1) (L - (c + 1)) (by omega));rw [show c + 1 + (L - (c + 1)) = L by omega] at hle;have hFr:=(hle.trans hFl).rows ((FS.row next r (c + 1) s).rows.length - 1) ((FS.row next r (c + 1) s).rows[(FS.row next r (c + 1) s).rows.length - 1]'(by omega)) (by simp);have hFr2:=(List.getElem?_eq_some_iff.1 hFr).1;refine wp_exit ?_
  repeat first|refine bf ?_|refine ba ?_|refine az rfl ?_
  refine wp_seq (b6 [(10,vn),(11,.bool false)] af dc (by kernel_rfl) hS ?_ (fun a w13 hS hw=>?_))
  ·obtain ⟨mb,vf,xs,h,hrs,hm,hb,hin⟩:=h;have hxl : (FS.row next r (c + 1) s).rows.length = xs.length:=by rw [hrs,List.length_map]
   obtain ⟨gf,cf,rfl,-,-⟩:=h.r.any (i:=1) rfl
   repeat refine qX rfl ?_
   refine qL rfl (h.r.xcell (i:=0) rfl (j:=64) rfl) ?_
   repeat refine qX rfl ?_
   refine qC rfl (decide_eq_false (show ¬ (xs.length : Int) ≤ (lim : Int) by omega)) ?_
   repeat refine qX rfl ?_
   exact fa ⟨rfl,rfl,trivial⟩
  refine wp_ret ?_
  repeat first|refine a8 ?_|refine am ?_
  exact n8 (ret2 hS rfl rfl rfl ⟨vn,vs,.inr ⟨by omega,rfl,(hNRr (h.hold).tail).below hw⟩⟩)
 have hcl' : (FS.row next r (c + 1) s).rows.length ≤ lim:=by have:=of_decide_eq_false hF'; omega
 refine ay ?_;refine ai [(0,Vp fb),(2,Vi L),(3,Vi lim),(4,.func (.func S) #[] caps),(10,vn),(12,Vi i),(13,Vs gc L L),(29,Vi L),(30,Vi (c + 1 : Nat))] (· = w12) af hS ?_ (fun a w13 hS hw=>?_)
 ·repeat refine zX rfl ?_
  refine zN rfl (bm c 1 (by omega)) ?_
  repeat refine zX rfl ?_
  exact aj ⟨⟨rfl,rfl,rfl,rfl,rfl,rfl,rfl,rfl,rfl,trivial⟩,rfl⟩
 subst hw;exact ⟨L - (c + 1),_,by omega,⟨c + 1,by omega,rfl,rfl,hcl',h⟩,hS⟩
end
end
section
open Go Sym
theorem ag4 : bk Tryz.prog 30 = true:=by kernel_rfl
theorem o9 (x : Nat) : iz (setC x) = true:=rfl
section
variable {base : Nat} {w0 w w' : World} {l rest : List Ow} {G : Nat → Prop}
set_option maxHeartbeats 2000000 in
theorem ahm {mi pb rc k L S2 : Nat} {y : Nat} {caps2 : Array Value} {st : Int} {vn ve vf : Value} {ends : List Bool} {b : Bool} {xl : Nat} {tl : List Ow}
  (h : Hold base w0 w (oB ve ends :: oX 25 mi 4 [Vi L,Vi st,vn,ve] :: tl)) (hp : OwnB w pb 56 (setC y)) (hl : ends.length ≤ 100000000) (hen : bk Tryz.prog S2 = true)
  (hend : ∀ w',RowKit.Below w.heap.size w w' → Calls Tryz.prog S2 ([setV y] ++ caps2.toList).toArray w' fun e w2=>e = .returned (.bool b) ∧ RowKit.Below w'.heap.size w' w2)
  {Q : Exit → Act → World → Prop} {a : Act} {ops : Array Oper} {id : Nat} (hops : Sym.da Tryz.f30.body 9 = some (id,ops))
  (hS : St Tryz.f30.ntmps a [(5,.func (.func S2) #[] caps2),(12,Vp rc),(17,Vp mi),(43,vf),(44,Vi xl),(45,Vi k),(19,Vp pb)])
  (hq : ∀ ve' a' w',St Tryz.f30.ntmps a' [(5,.func (.func S2) #[] caps2),(12,Vp rc),(17,Vp mi),(43,vf),(44,Vi xl),(45,Vi k)] → Hold base w0 w' (oB ve' (ends ++ [b]) :: oX 25 mi 4 [Vi L,Vi st,vn,ve'] :: tl) → Q .normal a' w') : (Code.region id ops true).wp Tryz.prog Q a w:=by
 cases hops
 refine ep (α:=Value) 6 (fun _=>[(5,.func (.func S2) #[] caps2),(12,Vp rc),(17,Vp mi),(43,vf),(44,Vi xl),(45,Vi k)]) (fun ve' w'=>Hold base w0 w' (oB ve' (ends ++ [b]) :: oX 25 mi 4 [Vi L,Vi st,vn,ve'] :: tl)) dc hS ?_ hq;obtain ⟨gs,cs,rfl,hc⟩:=h.r.any (i:=0) rfl;have hy : RowKit.Below w.drew.heap.size w.drew w.drew:=RowKit.Below.refl _ _;have hD:=h.drew;have hd : RowKit.Below w.heap.size w w.drew:=(RowKit.Below.refl _ _).drew;have hpD : ca w.drew.cell? pb 0 (setC y):=ji _ 0 fun j v hj=>by rw [Nat.zero_add]; exact hp.cell hj
 refine yT 0 af rfl (by kernel_rfl) hy rfl (rfl) ?_;refine yL 1 af rfl (by kernel_rfl) hy rfl rfl (hD.r.xcell (i:=1) rfl (j:=3) rfl) ?_;refine yT 2 af rfl (by kernel_rfl) hy rfl (rfl) ?_;refine yT 3 af rfl (by kernel_rfl) hy rfl (exI (setC y) (anI rfl (anI (hpD) rfl))) ?_;refine bo 4 (by kernel_rfl) (y_op 4 af rfl rfl rfl rfl ?_);refine anI hen ((hend w.drew hd).mono ?_);rintro e w2 ⟨rfl,k1⟩;refine ⟨_,rfl,?_⟩;refine anI (.inr k1) ?_;refine bo 5 (by kernel_rfl) (y_op 5 af rfl rfl rfl rfl ?_);refine exI [(0,.bool b)] (exI #[.bool b] (anI (anI rfl rfl) (anI (by decide) (anI (agv _ _) ?_))));have hy2:=k1.alloc k1.size (.cells #[.bool b] 4);refine anI (.inr hy2) ?_;have h3:=(hD.below k1).alloc (.cells #[.bool b] 4)
 have ask : AppAsk (w2.alloc (.cells #[.bool b] 4)) ⟨4,.bool,1,1,.bool false⟩ (.slice gs ends.length cs) ends.length (ip ends) (Vs w2.heap.size 1 1) 1 [.bool b] base:=
  ⟨h3.r.1 0 _ rfl,.inr ⟨_,0,_,rfl,ax rfl,trivial⟩,rfl,(by simp [Value.oneCell']),(by omega),(by show (ends.length + 1) * 1 ≤ _; omega),h3.s⟩
 refine bo 6 (by kernel_rfl) (y_op 6 af rfl rfl rfl rfl ?_);refine exI _ (exI _ (exI _ (exI _ (exI _ (anI (ask) (anI (fun _ h=>h.symm) (anI (by decide) ?_)))))));rintro v' w3 hown hgr - hat;refine anI (.inl (by kernel_rfl)) ?_;have h4:=h3.appB (ys:=[b]) (i:=0) rfl hown hgr hat;obtain ⟨g2,n2,c2,hv⟩:=df hown;subst hv;refine yG 7 af rfl (by kernel_rfl) (.inl (by kernel_rfl)) rfl rfl ?_;refine bo 8 (by kernel_rfl) (ew 8 af rfl rfl rfl ?_);refine anI rfl (anI rfl (anI ⟨_,h4.r.xcell (i:=1) rfl (j:=3) rfl⟩ (anI (h4.r.free (i:=1) rfl 3) (anI (.inl (by kernel_rfl)) ?_))));exact fc (.slice g2 n2 c2) (by kernel_rfl) ⟨rfl,rfl,rfl,rfl,rfl,rfl,trivial⟩ (h4.xstore (i:=1) rfl 3 (.slice g2 n2 c2))
set_option maxHeartbeats 2000000 in
theorem ad9 {n L lim S S2 x0 : Nat} {caps caps2 : Array Value} {next : List (List Int)} {fin : List Bool} {s0 : Int} {F : FS} (h : Hold base w0 w rest) (hn : n ≤ 16384) (hnl : next.length = n) (hx0 : x0 < n) (hG0 : x0 ≠ 0 → G x0) (hL : L ≤ 100000) (hlim : 1 ≤ lim) (hlim2 : lim ≤ 1000000)
  (hsh : Shape (L : Int) s0 next fin) (hen : bk Tryz.prog S = true) (hen2 : bk Tryz.prog S2 = true)
  (hstep : ∀ (y c : Nat) (w : World),G y → c < L → Hold base w0 w rest → Calls Tryz.prog S ([setV y,Vi c] ++ caps.toList).toArray w fun e w'=>∃ z : Nat,z < n ∧ (z ≠ 0 → G z) ∧ e = .returned (setV z) ∧ tgtM next (y : Int) c = cd 0 z ∧ RowKit.Below w.heap.size w w')
  (hend : ∀ (y : Nat) (w : World),G y → Hold base w0 w rest → Calls Tryz.prog S2 ([setV y] ++ caps2.toList).toArray w fun e w'=>e = .returned (.bool (fin.getD y false)) ∧ RowKit.Below w.heap.size w w')
  (hF : d7 (cd 0 x0) next L = F) :
  Calls Tryz.prog 30 #[setV x0,setV 0,Vi L,Vi lim,.func (.func S) #[] caps,.func (.func S2) #[] caps2] w fun e w'=>(∃ (vn ve : Value) (vs : List Value),F.rows.length ≤ lim ∧ e = .returned (.tuple #[.agg #[Vi L,Vi (if F.rows.length = 0 then -1 else 0 : Int),vn,ve],Vi 0]) ∧ Found (cd 0 x0) next L F ∧ vs.length = F.rows.length ∧ (∀ l ∈ F.rows.map (bj F.place next L),∀ x ∈ l,I64 x) ∧ Hold base w0 w' (oB ve (bt F fin) :: (dk vn vs (F.rows.map (bj F.place next L)) ++ rest))) ∨ (lim < F.rows.length ∧ e = .returned (.tuple #[.agg #[Vi 0,Vi 0,.slice none 0 0,.slice none 0 0],Vi 5]) ∧ Hold base w0 w' rest):=by
 refine Sym.c8 (args:=[setV x0,setV 0,Vi L,Vi lim,.func (.func S) #[] caps,.func (.func S2) #[] caps2]) Tryz.func30 rfl rfl rfl (fun a0 hS0=>?_);obtain ⟨B,hBB⟩ : ∃ B,B = w.heap.size:=⟨_,rfl⟩;refine wp_seq (bg (α:=Nat) (fun rc=>[(6,Vp B),(7,Vp (B + 1)),(2,Vi L),(3,Vi lim),(4,.func (.func S) #[] caps),(5,.func (.func S2) #[] caps2),(12,Vp rc)]) (fun rc w'=>Hold base w0 w' (oX 25 rc 4 [Vi 0,Vi 0,.slice none 0 0,.slice none 0 0] :: oX 56 (B + 1) 63 (setC 0) :: oX 56 B 63 (setC x0) :: rest)) af hS0 ?_ (fun rc a w1 hS h=>?_))
 ·have h1:=((h.box (T:=56) (k:=63) (setC x0).toArray rfl).box (T:=56) (k:=63) (setC 0).toArray rfl).box (T:=25) (k:=4) #[Vi 0,Vi 0,.slice none 0 0,.slice none 0 0] rfl;have e : (w.alloc (.cells (setC x0).toArray 56)).heap.size = B + 1:=by rw [b5,hBB]
  rw [e,← hBB] at h1;have e' : (w.alloc (.cells (setV x0).cells 56)).heap.size = B + 1:=e;refine zB rfl ?_;refine zB rfl ?_;rw [e',← hBB];refine zB rfl ?_
  repeat refine zX rfl ?_
  exact aj ⟨_,⟨rfl,rfl,rfl,rfl,rfl,rfl,rfl,trivial⟩,h1⟩
 replace h:=h.perm (.cons _ (.swap _ _ _));have hc0:=ul (nb:=0) hx0
 have hFo : Found (cd 0 x0) next L F:=by
  rw [← hF]; exact io hsh hc0.1 (by rw [hnl]; exact hc0.2)
 have hr : ∀ r : Int,0 ≤ r → r < n → ∀ c,c < L → -1 ≤ tgtM next r c ∧ tgtM next r c < n:=fun r h1 h2 c hc=>by
  have:=dm hsh r h1 (by omega) c (by rw [Int.toNat_natCast]; exact hc)
  rwa [hnl] at this
 refine wp_seq (bg (α:=Nat) (fun fb=>[(6,Vp B),(7,Vp (B + 1)),(2,Vi L),(3,Vi lim),(4,.func (.func S) #[] caps),(5,.func (.func S2) #[] caps2),(12,Vp rc),(14,Vp fb)]) (fun fb w'=>j7 base w0 w' fb G (FS.none n) (oX 25 rc 4 [Vi 0,Vi 0,.slice none 0 0,.slice none 0 0] :: oX 56 B 63 (setC x0) :: oX 56 (B + 1) 63 (setC 0) :: rest)) af hS ?_ (fun fb a w2 hS h=>?_))
 ·refine zA (setC 0) rfl rfl (v8 h.r (i:=2) rfl) ?_;refine zF rfl (xg) (ue (G:=G) h n) ?_;rintro e w2 ⟨fb,rfl,h2⟩;refine ⟨_,rfl,?_⟩
  repeat refine zX rfl ?_
  exact aj ⟨fb,⟨rfl,rfl,rfl,rfl,rfl,rfl,rfl,rfl,trivial⟩,h2⟩
 have cx0 : ∀ {w'},j7 base w0 w' fb G (FS.none n) (oX 25 rc 4 [Vi 0,Vi 0,.slice none 0 0,.slice none 0 0] :: oX 56 B 63 (setC x0) :: oX 56 (B + 1) 63 (setC 0) :: rest) → ca w'.cell? B 0 (setC x0):=fun h=>by
  obtain ⟨mb,vf,xs,h,-,-,-⟩:=h;exact v8 h.r (i:=3) rfl
 refine wp_seq (bg (α:=Value × List Value) (fun v=>[(6,Vp B),(7,Vp (B + 1)),(2,Vi L),(3,Vi lim),(4,.func (.func S) #[] caps),(5,.func (.func S2) #[] caps2),(12,Vp rc),(14,Vp fb),(15,v.1),(16,.bool (decide (F.rows.length ≤ lim)))]) (fun v w'=>(F.rows.length ≤ lim ∧ v.2.length = F.rows.length ∧ FIn n F ∧ j7 base w0 w' fb G F (dk v.1 v.2 (F.rows.map (bj F.place next L)) ++ (oX 25 rc 4 [Vi 0,Vi 0,.slice none 0 0,.slice none 0 0] :: oX 56 B 63 (setC x0) :: oX 56 (B + 1) 63 (setC 0) :: rest))) ∨ (lim < F.rows.length ∧ Hold base w0 w' (oX 25 rc 4 [Vi 0,Vi 0,.slice none 0 0,.slice none 0 0] :: oX 56 B 63 (setC x0) :: oX 56 (B + 1) 63 (setC 0) :: rest))) af hS ?_ (fun v a w3 hS h=>?_))
 ·repeat refine zX rfl ?_
  refine zA (setC x0) rfl rfl (cx0 h) ?_
  repeat refine zX rfl ?_
  refine zF rfl (adx) (aab h hn hnl hx0 hG0 hL hlim hlim2 hr hen (fun y c w hy hc hw=>hstep y c w hy hc hw.tail.tail.tail) hF) ?_;rintro e w3 ⟨vn,vs,⟨k0,rfl,k1,k2,k3⟩ | ⟨k0,rfl,k1⟩⟩
  ·refine ⟨_,rfl,?_⟩;rw [decide_eq_true k0]
   repeat refine zX rfl ?_
   exact aj ⟨(vn,vs),⟨rfl,rfl,rfl,rfl,rfl,rfl,rfl,rfl,rfl,rfl,trivial⟩,.inl ⟨k0,k1,k2,k3⟩⟩
  ·refine ⟨_,rfl,?_⟩;rw [decide_eq_false (show ¬ F.rows.length ≤ lim by omega)]
   repeat refine zX rfl ?_
   exact aj ⟨(vn,vs),⟨rfl,rfl,rfl,rfl,rfl,rfl,rfl,rfl,rfl,rfl,trivial⟩,.inr ⟨k0,k1⟩⟩
 obtain ⟨vn,vs⟩:=v;simp only at hS h;refine wp_seq (wp_seq (ai [(6,Vp B),(7,Vp (B + 1)),(2,Vi L),(3,Vi lim),(4,.func (.func S) #[] caps),(5,.func (.func S2) #[] caps2),(12,Vp rc),(14,Vp fb),(15,vn),(32,.bool (!decide (F.rows.length ≤ lim)))] (· = w3) af hS ?_ (fun a w4 hS hw=>?_)))
 ·repeat refine zX rfl ?_
  exact aj ⟨⟨rfl,rfl,rfl,rfl,rfl,rfl,rfl,rfl,rfl,rfl,trivial⟩,rfl⟩
 subst hw
 rcases h with ⟨k0,hvs,hIF,h⟩ | ⟨k0,h⟩
 rotate_left
 ·rw [decide_eq_false (show ¬ F.rows.length ≤ lim by omega)] at hS;refine cond hS rfl (fun _=>?_) (fun hF=>by cases hF);refine wp_seq (ai [(12,Vp rc),(13,Vi 5)] (fun w'=>Hold base w0 w' (oX 25 rc 4 [Vi 0,Vi 0,.slice none 0 0,.slice none 0 0] :: oX 56 B 63 (setC x0) :: oX 56 (B + 1) 63 (setC 0) :: rest)) af hS ?_ (fun a w8 hS h=>?_))
  ·repeat refine zX rfl ?_
   refine cj rfl rfl (anI rfl (anI rfl (anI (me h.r (i:=0) rfl) ?_)))
   repeat refine zX rfl ?_
   exact aj ⟨⟨rfl,rfl,trivial⟩,h.xput4 (i:=0) rfl _ _ _ _⟩
  refine wp_ret ?_
  repeat first|refine a8 ?_|refine am ?_
  refine p9 af hS rfl rfl rfl rfl rfl (o:=0) (vs:=[Vi 0,Vi 0,.slice none 0 0,.slice none 0 0]) ⟨h.r.xcell (i:=0) rfl (j:=0) rfl,h.r.xcell (i:=0) rfl (j:=1) rfl,h.r.xcell (i:=0) rfl (j:=2) rfl,h.r.xcell (i:=0) rfl (j:=3) rfl,trivial⟩ rfl (.inr ⟨k0,rfl,h.tail.tail.tail⟩)
 rw [decide_eq_true k0] at hS
 obtain ⟨gn,cn,hvn⟩ : ∃ g c,vn = .slice g vs.length c:=by
  obtain ⟨mb,vf,xs,h,-,-,-⟩:=h;obtain ⟨g,c,e,-⟩:=h.r.any (i:=2) (v:=vn) (e:=34) (s:=1) (n:=vs.length) (xs:=vs) rfl;exact ⟨g,c,e⟩
 refine cond hS rfl (fun hT=>by cases hT) (fun _=>wp_skip ?_);obtain ⟨fn1,fn2⟩:=yt hFo
 have cx1 : ca w4.cell? B 0 (setC x0):=by
  obtain ⟨mb,vf,xs,h,-,-,-⟩:=h
  have h':=h.perm (l':=oX 56 B 63 (setC x0) :: oX 56 (B + 1) 63 (setC 0) :: rest ++ (g7 118 fb (setC 0) mb vf :: oT vf xs :: (dk vn vs (F.rows.map (bj F.place next L)) ++ [oX 25 rc 4 [Vi 0,Vi 0,.slice none 0 0,.slice none 0 0]]))) (by
   rw [show (g7 118 fb (setC 0) mb vf :: oT vf xs :: (dk vn vs (F.rows.map (bj F.place next L)) ++ (oX 25 rc 4 [Vi 0,Vi 0,.slice none 0 0,.slice none 0 0] :: oX 56 B 63 (setC x0) :: oX 56 (B + 1) 63 (setC 0) :: rest))) = (g7 118 fb (setC 0) mb vf :: oT vf xs :: (dk vn vs (F.rows.map (bj F.place next L)) ++ [oX 25 rc 4 [Vi 0,Vi 0,.slice none 0 0,.slice none 0 0]])) ++ (oX 56 B 63 (setC x0) :: oX 56 (B + 1) 63 (setC 0) :: rest) by simp];exact List.perm_append_comm)
  exact v8 h'.r (i:=0) rfl
 refine wp_seq (bg (α:=Nat) (fun mi=>[(5,.func (.func S2) #[] caps2),(12,Vp rc),(14,Vp fb),(17,Vp mi)]) (fun mi w'=>∃ (mb : Nat) (vf : Value) (xs : List Nat),Hold base w0 w' (oB (.slice none 0 0) [] :: oX 25 mi 4 [Vi L,Vi (if F.rows.length = 0 then -1 else 0 : Int),vn,.slice none 0 0] :: oX 25 rc 4 [Vi 0,Vi 0,.slice none 0 0,.slice none 0 0] :: g7 118 fb (setC 0) mb vf :: oT vf xs :: (dk vn vs (F.rows.map (bj F.place next L)) ++ (oX 56 B 63 (setC x0) :: oX 56 (B + 1) 63 (setC 0) :: rest))) ∧ F.rows = xs.map Int.ofNat ∧ ∀ x ∈ xs,G x) af hS ?_ (fun mi a w5 hS h=>?_))
 ·subst hvn;have hnum:=nz h hIF hn hx0 hG0;rw [fn1,fn2] at hnum
  repeat refine zX rfl ?_
  refine zA (setC x0) rfl rfl (cx1) ?_;refine zF rfl (qq) (hnum) ?_;rintro e w5 ⟨rfl,mb,vf,xs,h,hrs,hm,hb,hin⟩;refine ⟨_,rfl,?_⟩
  repeat refine zX rfl ?_
  refine zB rfl ?_;refine cj rfl rfl (anI rfl (anI rfl (anI (b0 (OwnB.new w5 [Vi 0,Vi 0,.slice none 0 0,.slice none 0 0] 25)) ?_)));have h2:=(h.var (T:=25) (k:=4) [Vi 0,Vi 0,.slice none 0 0,.slice none 0 0] [Vi L,Vi (if F.rows.length = 0 then -1 else 0 : Int),.slice gn vs.length cn,.slice none 0 0] rfl rfl).1;refine aj ⟨_,⟨rfl,rfl,rfl,rfl,trivial⟩,mb,vf,xs,?_,hrs,hin⟩;refine (h2.nil 4 1).perm (.cons _ (.cons _ ?_));exact List.perm_middle (l₁:=g7 118 fb (setC 0) mb vf :: oT vf xs :: dk (.slice gn vs.length cn) vs (F.rows.map (bj F.place next L))) (l₂:=oX 56 B 63 (setC x0) :: oX 56 (B + 1) 63 (setC 0) :: rest)
 obtain ⟨mb,vf,xs,h,hrs,hin⟩:=h;have hxl : F.rows.length = xs.length:=by rw [hrs,List.length_map]
 have hcap:=hIF.ok.cap;obtain ⟨TL,hTL⟩ : ∃ TL,TL = oX 25 rc 4 [Vi 0,Vi 0,.slice none 0 0,.slice none 0 0] :: g7 118 fb (setC 0) mb vf :: oT vf xs :: (dk vn vs (F.rows.map (bj F.place next L)) ++ (oX 56 B 63 (setC x0) :: oX 56 (B + 1) 63 (setC 0) :: rest)):=⟨_,rfl⟩;refine wp_seq (wp_seq (ai [(5,.func (.func S2) #[] caps2),(12,Vp rc),(17,Vp mi),(43,vf),(44,Vi xs.length),(45,Vi (0 : Nat))] (· = w5) af hS ?_ (fun a w' hS hw=>?_)))
 ·obtain ⟨gf,cf,rfl,-,-⟩:=h.r.any (i:=4) rfl
  repeat refine zX rfl ?_
  refine zL rfl (h.r.xcell (i:=3) rfl (j:=64) rfl) ?_
  repeat refine zX rfl ?_
  exact aj ⟨⟨rfl,rfl,rfl,rfl,rfl,rfl,trivial⟩,rfl⟩
 subst hw;rw [← hTL] at h;refine wp_block (cz hS (fun γ E w'=>∃ (k : Nat) (ve : Value),k ≤ xs.length ∧ γ = xs.length - k ∧ E = [(5,.func (.func S2) #[] caps2),(12,Vp rc),(17,Vp mi),(43,vf),(44,Vi xs.length),(45,Vi k)] ∧ Hold base w0 w' (oB ve ((F.rows.take k).map fun r=>fin.getD r.toNat false) :: oX 25 mi 4 [Vi L,Vi (if F.rows.length = 0 then -1 else 0 : Int),vn,ve] :: TL)) xs.length ⟨0,.slice none 0 0,by omega,by omega,rfl,h⟩ ?_);clear hS h;rintro γ E w6 a ⟨k,ve,hk,rfl,rfl,h⟩ hS;refine wp_seq (ai [(5,.func (.func S2) #[] caps2),(12,Vp rc),(17,Vp mi),(43,vf),(44,Vi xs.length),(45,Vi k),(46,.bool (decide (k < xs.length)))] (· = w6) af hS ?_ (fun a w7 hS hw=>?_))
 ·repeat refine zX rfl ?_
  refine zC rfl (co _ _) ?_
  repeat refine zX rfl ?_
  exact aj ⟨⟨rfl,rfl,rfl,rfl,rfl,rfl,rfl,trivial⟩,rfl⟩
 subst hw;refine wp_seq (cond hS rfl (fun hT=>wp_skip ?_) (fun hF'=>?_))
 rotate_left
 ·have hkk : k = F.rows.length:=by have:=of_decide_eq_false hF'; omega
  rw [hkk,List.take_length] at h;refine wp_exit ?_
  repeat first|refine bf ?_|refine ba ?_|refine az rfl ?_
  subst hTL;refine wp_seq (ai [(12,Vp rc),(13,Vi 0)] (fun w'=>Hold base w0 w' ((oB ve (bt F fin) :: oX 25 mi 4 [Vi L,Vi (if F.rows.length = 0 then -1 else 0 : Int),vn,ve] :: oX 25 rc 4 [Vi L,Vi (if F.rows.length = 0 then -1 else 0 : Int),vn,ve] :: g7 118 fb (setC 0) mb vf :: [oT vf xs]) ++ (dk vn vs (F.rows.map (bj F.place next L)) ++ (oX 56 B 63 (setC x0) :: oX 56 (B + 1) 63 (setC 0) :: rest)))) af hS ?_ (fun a w8 hS h=>?_))
  ·refine zA ([Vi L,Vi (if F.rows.length = 0 then -1 else 0 : Int),vn,ve]) rfl rfl (⟨h.r.xcell (i:=1) rfl (j:=0) rfl,h.r.xcell (i:=1) rfl (j:=1) rfl,h.r.xcell (i:=1) rfl (j:=2) rfl,h.r.xcell (i:=1) rfl (j:=3) rfl,trivial⟩) ?_;obtain ⟨ge,ce,hve2,-⟩:=h.r.any (i:=0) (v:=ve) (e:=4) (s:=1) (n:=(bt F fin).length) (xs:=ip (bt F fin)) rfl;have hone : iz (Value.agg #[Vi L,Vi (if F.rows.length = 0 then -1 else 0 : Int),vn,ve]).cells.toList = true:=by rw [hvn,hve2]; rfl
   refine cj rfl rfl (anI rfl (anI hone (anI (me h.r (i:=2) rfl) ?_)))
   repeat refine zX rfl ?_
   exact aj ⟨⟨rfl,rfl,trivial⟩,h.xput4 (i:=2) rfl _ _ _ _⟩
  have hI64 : ∀ l ∈ F.rows.map (bj F.place next L),∀ x ∈ l,I64 x:=fun l hl x hx=>by
   obtain ⟨r,hr1,rfl⟩:=List.mem_map.1 hl;obtain ⟨c,hc,rfl⟩:=List.mem_map.1 hx;obtain ⟨q1,q2,-⟩:=hIF.ok.r r hr1
   have:=afu hIF (hr r q1 q2 c (List.mem_range.1 hc)).2
   unfold I64; omega
  have hfin:=(((h.erase 1).erase 1).erase 1).erase 1
  have hfin2 : Hold base w0 w8 (oB ve (bt F fin) :: (dk vn vs (F.rows.map (bj F.place next L)) ++ rest)):=by
   refine (hfin.perm (l':=oX 56 B 63 (setC x0) :: oX 56 (B + 1) 63 (setC 0) :: oB ve (bt F fin) :: (dk vn vs (F.rows.map (bj F.place next L)) ++ rest)) ?_).tail.tail;show List.Perm (oB ve (bt F fin) :: (dk vn vs (F.rows.map (bj F.place next L)) ++ (oX 56 B 63 (setC x0) :: oX 56 (B + 1) 63 (setC 0) :: rest))) _;refine .trans (.cons _ ((List.perm_middle).trans (.cons _ List.perm_middle))) ?_;exact .trans (.swap _ _ _) (.cons _ (.swap _ _ _))
  refine wp_ret ?_
  repeat first|refine a8 ?_|refine am ?_
  refine p9 af hS rfl rfl rfl rfl rfl (o:=0) (vs:=[Vi L,Vi (if F.rows.length = 0 then -1 else 0 : Int),vn,ve]) ⟨h.r.xcell (i:=2) rfl (j:=0) rfl,h.r.xcell (i:=2) rfl (j:=1) rfl,h.r.xcell (i:=2) rfl (j:=2) rfl,h.r.xcell (i:=2) rfl (j:=3) rfl,trivial⟩ rfl (.inl ⟨vn,ve,vs,k0,rfl,hFo,hvs,hI64,hfin2⟩)
 have hkk : k < xs.length:=of_decide_eq_true hT;have hkr : k < F.rows.length:=by omega
 obtain ⟨y,hye⟩ : ∃ y,y = xs[k]:=⟨_,rfl⟩
 have hyr : ((y : Nat) : Int) = F.rows[k]:=by
  rw [hye];simp only [hrs,List.getElem_map];rfl
 have hyn : G y:=by rw [hye]; exact hin _ (List.getElem_mem hkk)
 refine wp_seq (wp_block (wp_seq (bg (α:=Nat) (fun pb=>[(5,.func (.func S2) #[] caps2),(12,Vp rc),(17,Vp mi),(43,vf),(44,Vi xs.length),(45,Vi k),(19,Vp pb)]) (fun pb w'=>Hold base w0 w' (oB ve ((F.rows.take k).map fun r=>fin.getD r.toNat false) :: oX 25 mi 4 [Vi L,Vi (if F.rows.length = 0 then -1 else 0 : Int),vn,ve] :: TL) ∧ OwnB w' pb 56 (setC y)) af hS ?_ (fun pb a w8 hS h=>?_))))
 ·subst hTL;obtain ⟨gf,cf,rfl,-⟩:=h.r.nilOr (i:=4) rfl (by omega);have hcell:=ab3 h (i:=4) rfl hkk;rw [show gt xs k = y by rw [hye]; simp [gt,List.getD_eq_getElem?_getD,hkk]] at hcell;have hnew:=OwnB.new w7 (setC 0) 56;have hg:=bz w7.heap.size (setC y) 0 (w7.alloc (.cells (setC 0).toArray 56));have h6:=a6 (ao w7 (.cells (setC 0).toArray 56)) hg (fun q hq=>by cases hq; exact Nat.le_refl _)
  repeat refine zX rfl ?_
  refine zI rfl (rfl) (hkk) ?_;refine zA (setC y) rfl rfl (hcell) ?_;refine zB rfl ?_;refine cj rfl rfl (anI rfl (anI (o9 y) (anI (ke hnew (n:=63) (by decide)) ?_)));exact aj ⟨_,⟨rfl,rfl,rfl,rfl,rfl,rfl,rfl,trivial⟩,h.below h6,hnew.sets rfl⟩
 obtain ⟨h,hpb⟩:=h
 refine ahm (b:=fin.getD y false) h hpb (by simp; omega) hen2 (fun w' hw'=>hend y w' hyn (by
  have:=h.below hw'
  subst hTL;exact (this.drop (A:=oB ve ((F.rows.take k).map fun r=>fin.getD r.toNat false) :: oX 25 mi 4 [Vi L,Vi (if F.rows.length = 0 then -1 else 0 : Int),vn,ve] :: oX 25 rc 4 [Vi 0,Vi 0,.slice none 0 0,.slice none 0 0] :: g7 118 fb (setC 0) mb vf :: oT vf xs :: dk vn vs (F.rows.map (bj F.place next L)))).tail.tail)) (by rfl) hS (fun ve' a w9 hS h=>?_)
 refine ay ?_;refine ai [(5,.func (.func S2) #[] caps2),(12,Vp rc),(17,Vp mi),(43,vf),(44,Vi xs.length),(45,Vi (k + 1 : Nat))] (· = w9) af hS ?_ (fun a w10 hS hw=>?_)
 ·repeat refine zX rfl ?_
  refine zN rfl (bm k 1 (by omega)) ?_
  repeat refine zX rfl ?_
  exact aj ⟨⟨rfl,rfl,rfl,rfl,rfl,rfl,trivial⟩,rfl⟩
 subst hw;refine ⟨xs.length - (k + 1),_,by omega,⟨k + 1,ve',by omega,rfl,rfl,?_⟩,hS⟩;rw [List.take_succ_eq_append_getElem hkr,List.map_append,List.map_singleton,← hyr,Int.toNat_natCast];exact h
end
end
section
open Go Sym
theorem wrap32 {n : Int} (h : -1 ≤ n) (h2 : n < 16) : IntKind.i64.wrap n = n:=aem rfl (by omega) (by omega)
theorem lk {W : World} {b x : Nat} (h : OwnB W b 56 (setC x)) : ca W.cell? b 0 (setC x):=ji _ 0 fun j v hj=>by rw [Nat.zero_add]; exact h.cell hj
theorem qf {W : World} {b : Nat} {T : TypeId} {vs : List Value} {p : Addr} {v : Value} (h : OwnB W b T vs) (hne : b ≠ p.block) : OwnB (W.setCell p v) b T vs:=(RowKit.Below.heap_setCell W p v b hne).trans h
theorem z6 (W : World) (b : Nat) (us : List Value) {T : TypeId} {vs : List Value} (h : OwnB W b T vs) : KeepsOthers W (W.setCells b 0 us):=
 .of_grownBy (bz b us 0 W) (fun j o e hj=>by cases e; have h : W.heap[b]? = some (.cells vs.toArray T (0,0)):=h; rw [h] at hj; cases hj; rfl)
set_option maxHeartbeats 1000000 in
theorem agm {x c N hb cb rb gh oh nh kh gc oc nc kc m q gr or nr kr : Nat} {ad : Option Addr} {hd : Bool} {nx : Nat → Int} {R : Nat → Nat} (w : World) (hx : x < 16384) (ht : pt w)
  (hh : w.cell? ⟨hb,0,none⟩ = some (.slice (some ⟨gh,oh,none⟩) nh kh)) (hhl : c < nh) (hhc : w.cell? ⟨gh,oh + c,none⟩ = some (.bool hd))
  (hcc : w.cell? ⟨cb,0,none⟩ = some (.slice (some ⟨gc,oc,none⟩) nc kc)) (hcl : c < nc) (hcv : w.cell? ⟨gc,oc + c,none⟩ = some (.slice ad m q))
  (hcx : ∀ y,bitP x y → ∃ g o,ad = some ⟨g,o,none⟩ ∧ y < m ∧ w.cell? ⟨g,o + y,none⟩ = some (.int .i32 (nx y)))
  (hr : w.cell? ⟨rb,0,none⟩ = some (.slice (some ⟨gr,or,none⟩) nr kr)) (hr2 : ∀ i,i < N → i < nr ∧ ∃ v,w.cell? ⟨gr,or + i,none⟩ = some v ∧ CkAt w v (R i))
  (hnx : ∀ y,bitP x y → -1 ≤ nx y ∧ nx y < N) (hN : N ≤ 14) (hRl : ∀ i,i < N → R i < 16384) (hRt : ∀ i k j,i < N → bitP (R i) k → bitP (R k) j → bitP (R i) j) :
  Calls Tryz.prog 26 #[setV x,Vi c,Vp hb,Vp cb,Vp rb] w fun e w'=>RowKit.Below w.heap.size w w' ∧ ∃ z,z < 16384 ∧ e = .returned (setV z) ∧ ∀ j,bitP z j ↔ hd = false ∧ ∃ y,bitP x y ∧ 0 ≤ nx y ∧ bitP (R (nx y).toNat) j:=by
 refine aki (args:=[setV x,Vi c,Vp hb,Vp cb,Vp rb]) Tryz.func26 rfl rfl rfl (fun a0 hS0=>?_);refine wpIn_seq (pa (ro:=none) (α:=Nat × Nat) (fun b=>[(1,Vi c),(2,Vp hb),(3,Vp cb),(4,Vp rb),(5,Vp b.1),(7,Vp b.2)]) (fun b W=>RowKit.Below w.heap.size w W ∧ OwnB W b.1 56 (setC x) ∧ OwnB W b.2 56 (setC 0) ∧ b.1 < b.2 ∧ w.heap.size ≤ b.1) af (.of hS0) ?_ (fun b a w1 hS h1=>?_))
 ·have h1:=OwnB.new w (setC x) 56;have h2:=OwnB.new (w.alloc (.cells (setC x).toArray 56)) (setC 0) 56;have hb1:=ao w (.cells (setC x).toArray 56);have hb2:=ao (w.alloc (.cells (setC x).toArray 56)) (.cells (setC 0).toArray 56);refine zB rfl ?_;refine zB rfl ?_;exact aj ⟨(_,_),⟨rfl,rfl,rfl,rfl,rfl,rfl,trivial⟩,ak hb1 hb2,h1.keep hb2 h1.lt,h2,h1.lt,Nat.le_refl _⟩
 obtain ⟨s,r⟩:=b;obtain ⟨k1,k2,k3,hsr,hs⟩:=h1;dsimp only at hS k2 k3 hsr hs;refine wpIn_seq (pa (ro:=none) (α:=Nat) (fun t=>[(1,Vi c),(2,Vp hb),(3,Vp cb),(4,Vp rb),(5,Vp s),(7,Vp r),(8,Vp t)]) (fun t W=>RowKit.Below w1.heap.size w1 W ∧ OwnB W t 56 (setC 0) ∧ w1.heap.size ≤ t) af hS ?_ (fun t a w2 hS h1=>?_))
 ·have h4:=OwnB.new w1 (setC 0) 56;have hg:=bz w1.heap.size (setC 0) 0 (w1.alloc (.cells (setC 0).toArray 56));have h6:=a6 (ao w1 (.cells (setC 0).toArray 56)) hg (fun q hq=>by cases hq; exact Nat.le_refl _)
  repeat refine zX rfl ?_
  refine zB rfl ?_;refine cj rfl rfl (anI rfl (anI (o9 0) (anI (ke h4 (n:=63) (by decide)) ?_)));exact aj ⟨_,⟨rfl,rfl,rfl,rfl,rfl,rfl,rfl,trivial⟩,h6,h4.sets rfl,Nat.le_refl _⟩
 obtain ⟨hb2,k5,htl⟩:=h1;have hrt : r < t:=by have:=k3.lt; omega
 replace k1:=ak k1 hb2;replace k2:=k2.keep hb2 k2.lt;replace k3:=k3.keep hb2 k3.lt;clear hb2 htl;refine wpIn_seq (wpIn_seq (gg (ro:=none) [(1,Vi c),(3,Vp cb),(4,Vp rb),(5,Vp s),(7,Vp r),(8,Vp t),(16,.bool hd)] (· = w2) af hS ?_ (fun a w3 hS hw=>?_)))
 ·refine zL rfl (keep k1 hh) ?_
  repeat refine zX rfl ?_
  refine zI rfl (rfl) (hhl) ?_;refine zL rfl (keep k1 hhc) ?_
  repeat refine zX rfl ?_
  exact aj ⟨⟨rfl,rfl,rfl,rfl,rfl,rfl,rfl,trivial⟩,rfl⟩
 subst hw;refine condD hS rfl (fun hT=>?_) (fun hF=>wpIn_skip ?_)
 ·refine wpIn_seq (gg (ro:=none) [(7,Vp r)] (fun W=>W = w3.setCells r 0 (setC 0)) af hS ?_ (fun a w4 hS hw=>wpIn_ret ?_))
  ·refine zA (setC 0) rfl rfl (lk k5) ?_;refine cj rfl rfl (anI rfl (anI (o9 0) (anI (ke k3 (n:=63) (by decide)) ?_)));exact aj ⟨⟨rfl,trivial⟩,rfl⟩
  subst hw;have k6 : OwnB (w3.setCells r 0 (setC 0)) r 56 (setC 0):=k3.sets rfl;refine leave0 hS (afj af hS rfl rfl rfl rfl (lk k6) rfl) ⟨a6 k1 (bz r _ 0 _) (fun k hk=>by cases hk; omega),0,by decide,rfl,fun j=>?_⟩;rw [hT];simp [bitP]
 refine wpIn_seq (pa (ro:=none) (α:=Nat) (fun cl=>[(5,Vp s),(4,Vp rb),(7,Vp r),(8,Vp t),(9,Vp cl)]) (fun cl W=>RowKit.Below w3.heap.size w3 W ∧ OwnB W cl 59 [.slice ad m q] ∧ w3.heap.size ≤ cl) af hS ?_ (fun cl a w4 hS h1=>?_))
 ·have h4:=OwnB.new w3 [.slice none 0 0] 59;have hb4:=ao w3 (.cells #[.slice none 0 0] 59);refine zL rfl (keep k1 hcc) ?_
  repeat refine zX rfl ?_
  refine zI rfl (rfl) (hcl) ?_;refine zL rfl (keep k1 hcv) ?_;refine zB rfl ?_;refine zS rfl rfl (h4.cell (i:=0) rfl) (h4.free 0) ?_;exact aj ⟨_,⟨rfl,rfl,rfl,rfl,rfl,trivial⟩,hb4.setCell (p:=⟨w3.heap.size,0,none⟩) (Nat.le_refl _) _,h4.set 0 _,Nat.le_refl _⟩
 obtain ⟨hb2,k4,hcll⟩:=h1;have htc : t < cl:=by have:=k5.lt; omega
 replace k1:=ak k1 hb2;replace k2:=k2.keep hb2 k2.lt;replace k3:=k3.keep hb2 k3.lt;replace k5:=k5.keep hb2 k5.lt;clear hb2 hcll;refine wpIn_seq (wpIn_seq (gg (ro:=none) [(22,.func (.func 27) #[Vp s] #[]),(4,Vp rb),(7,Vp r),(8,Vp t),(9,Vp cl)] (· = w4) af hS ?_ (fun a w5 hS hw=>?_)))
 ·repeat refine zX rfl ?_
  exact aj ⟨⟨rfl,rfl,rfl,rfl,rfl,trivial⟩,rfl⟩
 subst hw;have hS':=hS.st;have hw1 : w.heap.size ≤ w5.heap.size:=by have:=k4.lt; omega
 refine wpIn_block (uv (b:=s) (x:=x) (by rw [← qo]; exact bi hS.2 rfl) rfl hx hS.1 (fun pre W=>RowKit.Below w.heap.size w W ∧ OwnB W s 56 (setC x) ∧ OwnB W r 56 (setC 0) ∧ OwnB W cl 59 [.slice ad m q] ∧ ∃ z,z < 16384 ∧ OwnB W t 56 (setC z) ∧ ∀ j,bitP z j ↔ ∃ y ∈ pre,bitP x y ∧ 0 ≤ nx y ∧ bitP (R (nx y).toNat) j) (fun c pre W=>False) ?_ ?_ ?_ ?_ ?_ ?_ (fun y a1=>St Tryz.f26.ntmps a1 [(4,Vp rb),(7,Vp r),(8,Vp t),(9,Vp cl),(10,Vi y)]) ?_ ?_ ?_ ?_)
 ·rintro pre W W' ⟨i1,i2,i3,i4,z,hz,i5,i6⟩ hB;exact ⟨i1.trans (hB.mono (by have:=i2.lt; omega)),i2.keep hB i2.lt,i3.keep hB i3.lt,i4.keep hB i4.lt,z,hz,i5.keep hB i5.lt,i6⟩
 ·rintro pre W l o o' hl ⟨i1,i2,i3,i4,z,hz,i5,i6⟩ ho hoc;exact ⟨ii i1 (by have:=i2.lt; omega) (by omega),fi i2 (jz i2 ho hoc),fi i3 (jz i3 ho hoc),fi i4 (jz i4 ho hoc),z,hz,fi i5 (jz i5 ho hoc),i6⟩
 ·rintro c pre W l o o' hl h ho hoc;exact h.elim
 ·rintro pre W ⟨i1,-⟩ j hj;exact keep i1 (ht j hj)
 ·rintro pre W ⟨-,i2,-⟩ k hk;rw [Nat.zero_add];exact i2.cell (kp hk)
 ·exact ⟨k1,k2,k3,k4,0,by decide,k5,fun j=>by simp [bitP]⟩
 ·intro l y W K hK;refine gg (ro:=some l) [(4,Vp rb),(7,Vp r),(8,Vp t),(9,Vp cl),(10,Vi y)] (· = W) af (StD.par (Vi y) hS' rfl) ?_ (fun a1 W1 hS hw=>?_)
  ·repeat refine zX rfl ?_
   exact aj ⟨⟨rfl,rfl,rfl,rfl,rfl,trivial⟩,rfl⟩
  subst hw;exact hK a1 hS.st
 ·rintro l pre y W a1 hS ⟨i1,i2,i3,i4,z,hz,i5,i6⟩ hy;obtain ⟨g,o,rfl,hym,hcy⟩:=hcx y hy;obtain ⟨hn1,hn2⟩:=hnx y hy;have hcy':=keep i1 hcy;refine wpIn_block (wpIn_seq (gg (ro:=some l) [(4,Vp rb),(7,Vp r),(8,Vp t),(9,Vp cl),(11,Vi (nx y))] (· = W) af (.of hS) ?_ (fun a2 W2 hS hw=>?_)))
  ·refine zL rfl (i4.cell (i:=0) rfl) ?_
   repeat refine zX rfl ?_
   refine zI rfl (rfl) (hym) ?_;refine zL rfl (hcy') ?_;refine zN rfl (wrap32 hn1 (by omega)) ?_
   repeat refine zX rfl ?_
   exact aj ⟨⟨rfl,rfl,rfl,rfl,rfl,trivial⟩,rfl⟩
  subst hw;obtain ⟨bq,hbq⟩ : ∃ bq,(decide (0 ≤ nx y) && !(z.testBit (nx y).toNat)) = bq:=⟨_,rfl⟩;refine wpIn_seq (gg (ro:=some l) [(4,Vp rb),(7,Vp r),(8,Vp t),(9,Vp cl),(11,Vi (nx y)),(35,.bool bq)] (· = W2) af hS ?_ (fun a3 W3 hS hw=>?_))
  ·by_cases h0 : 0 ≤ nx y
   ·have hnat : nx y = (((nx y).toNat : Nat) : Int):=by omega
    have hhas:=act (b:=t) (o:=0) (j:=(nx y).toNat) W2 (i5.cell (i:=0) rfl) hz (by omega);rw [← hnat] at hhas;rw [decide_eq_true h0,Bool.true_and] at hbq
    repeat refine zX rfl ?_
    refine zC rfl (decide_eq_true h0) ?_
    repeat refine zX rfl ?_
    refine zF rfl (ag8) (hhas) ?_;rintro e w6 ⟨rfl,rfl⟩;refine ⟨_,rfl,?_⟩
    repeat refine zX rfl ?_
    rw [hbq];exact aj ⟨⟨rfl,rfl,rfl,rfl,rfl,rfl,trivial⟩,rfl⟩
   ·rw [decide_eq_false h0,Bool.false_and] at hbq;subst hbq
    repeat refine zX rfl ?_
    refine zC rfl (decide_eq_false h0) ?_
    repeat refine zX rfl ?_
    exact aj ⟨⟨rfl,rfl,rfl,rfl,rfl,rfl,trivial⟩,rfl⟩
  subst hw;refine condD hS rfl (fun hT=>?_) (fun hF=>wpIn_skip ?_)
  ·rw [hT,Bool.and_eq_true] at hbq;have h0 : 0 ≤ nx y:=of_decide_eq_true hbq.1;have hnat : nx y = (((nx y).toNat : Nat) : Int):=by omega
   have hlt : (nx y).toNat < N:=by omega
   obtain ⟨hnr,v,hv,hck⟩:=hr2 _ hlt;have hRy:=hRl _ hlt;have hck':=hck.keep i1;have hv':=keep i1 hv;obtain ⟨av,cv,hvv⟩:=hck.len;refine gg (ro:=some l) [] (fun W'=>KeepsOthers W3 W' ∧ RowKit.Below w.heap.size w W' ∧ OwnB W' s 56 (setC x) ∧ OwnB W' r 56 (setC 0) ∧ OwnB W' cl 59 [.slice (some ⟨g,o,none⟩) m q] ∧ OwnB W' t 56 (setC (z ||| R (nx y).toNat))) af hS ?_ (fun a4 W4 hS hw=>?_)
   ·have hj:=zi (g:=t) W3 (i5.cell (i:=0) rfl) (i5.free 0) hz hRy hck';refine zL rfl (keep i1 hr) ?_
    repeat refine zX rfl ?_
    refine zI rfl (hnat) (hnr) ?_;refine zL rfl (hv') ?_;refine zF rfl (xk) (hj) ?_;rintro e w6 ⟨rfl,hj6⟩;refine ⟨_,rfl,?_⟩;refine aj ⟨trivial,?_⟩
    rcases hj6 with ⟨hy0,rfl⟩ | ⟨u,hu,rfl⟩
    ·rw [hy0,Nat.or_zero];exact ⟨.refl _,i1,i2,i3,i4,i5⟩
    ·refine ⟨(keepsO hu).trans (.setCell _ _ _),(i1.trans (hu.mono (by have:=i2.lt; omega))).setCell (p:=⟨t,0,none⟩) (show w.heap.size ≤ t by omega) _,qf (i2.keep hu i2.lt) (show s ≠ t by omega),qf (i3.keep hu i3.lt) (show r ≠ t by omega),qf (i4.keep hu i4.lt) (show cl ≠ t by omega),(i5.keep hu i5.lt).set 0 _⟩
   obtain ⟨j0,j1,j2,j3,j4,j5⟩:=hw;refine ⟨j0,j1,j2,j3,j4,_,ait hz hRy,j5,fun j=>?_⟩;rw [aho,i6 j]
   constructor
   ·rintro (⟨y',h1,hb',h2,h3⟩ | h)
    ·exact ⟨y',List.mem_append_left _ h1,hb',h2,h3⟩
    ·exact ⟨y,by simp,hy,h0,h⟩
   ·rintro ⟨y',h1,hb',h2,h3⟩
    rcases List.mem_append.1 h1 with h1 | h1
    ·exact .inl ⟨y',h1,hb',h2,h3⟩
    ·rw [List.mem_singleton.1 h1] at h3; exact .inr h3
  ·rw [hF] at hbq;refine ⟨.refl _,i1,i2,i3,i4,z,hz,i5,fun j=>?_⟩;rw [i6 j]
   constructor
   ·rintro ⟨y',h1,hb',h2,h3⟩;exact ⟨y',List.mem_append_left _ h1,hb',h2,h3⟩
   ·rintro ⟨y',h1,hb',h2,h3⟩
    rcases List.mem_append.1 h1 with h1 | h1
    ·exact ⟨y',h1,hb',h2,h3⟩
    ·rw [List.mem_singleton.1 h1] at h2 h3;rw [decide_eq_true h2,Bool.true_and,Bool.not_eq_false'] at hbq;obtain ⟨y2,g1,gb,g2,g3⟩:=(i6 _).1 hbq
     have:=hnx y2 gb
     exact ⟨y2,g1,gb,g2,hRt _ _ _ (by omega) g3 h3⟩
 ·rintro D xs W hDl hxs ⟨i1,i2,i3,i4,z,hz,i5,i6⟩ hD;refine wpIn_seq (gg (ro:=none) [(7,Vp r)] (fun W'=>W' = W.setCells r 0 (setC z)) af (StD.mark hS' _) ?_ (fun a3 W3 hS hw=>wpIn_ret ?_))
  ·refine zA (setC z) rfl rfl (lk i5) ?_;refine cj rfl rfl (anI rfl (anI (o9 z) (anI (ke i3 (n:=63) (by decide)) ?_)));exact aj ⟨⟨rfl,trivial⟩,rfl⟩
  subst hw;have j3 : OwnB (W.setCells r 0 (setC z)) r 56 (setC z):=i3.sets rfl;have hD2:=(z6 W r (setC z) i3).same D _ hD rfl;have j6:=fi (o:=.deferred none) j3 (jz j3 hD2 rfl);refine agf hS hD2 (afj af hS rfl rfl rfl rfl (lk j6) rfl) ⟨ii (a6 i1 (bz r _ 0 _) (fun k hk=>by cases hk; omega)) (by have:=j3.lt; omega) (by omega),z,hz,rfl,fun j=>?_⟩;rw [i6 j];exact ⟨fun ⟨y,_,h1,h2,h3⟩=>⟨hF,y,h1,h2,h3⟩,fun ⟨_,y,h1,h2,h3⟩=>⟨y,(hxs y).2 h1,h1,h2,h3⟩⟩
 ·rintro D c pre W _ _ h;exact h.elim
end
section
open Go Sym
def aej (w : World) (g : Nat) (next : List (List Int)) (Ln n : Nat) : Prop:=∀ c,c < Ln → ∃ ad m q,w.cell? ⟨g,0 + c,none⟩ = some (.slice ad m q) ∧ ∀ y,y < n → ∃ g' o',ad = some ⟨g',o',none⟩ ∧ y < m ∧ w.cell? ⟨g',o' + y,none⟩ = some (.int .i32 (tgtM next (y : Nat) c))
def ReAt (w : World) (g n : Nat) (xs : List Nat) : Prop:=∀ i,i < n → ∃ v,w.cell? ⟨g,0 + i,none⟩ = some v ∧ CkAt w v (gt xs i)
theorem aej.keep {w w' : World} {g Ln n : Nat} {next : List (List Int)} (h : aej w g next Ln n) (hb : RowKit.Below w.heap.size w w') : aej w' g next Ln n:=fun c hc=>by
 obtain ⟨ad,m,q,h1,h2⟩:=h c hc;refine ⟨ad,m,q,Go.Proofs.YtndldmojkpjgoaaGreatDoor.keep hb h1,fun y hy=>?_⟩;obtain ⟨g',o',e,h3,h4⟩:=h2 y hy;exact ⟨g',o',e,h3,Go.Proofs.YtndldmojkpjgoaaGreatDoor.keep hb h4⟩
theorem ReAt.keep {w w' : World} {g n : Nat} {xs : List Nat} (h : ReAt w g n xs) (hb : RowKit.Below w.heap.size w w') : ReAt w' g n xs:=fun i hi=>by
 obtain ⟨v,h1,h2⟩:=h i hi;exact ⟨v,Go.Proofs.YtndldmojkpjgoaaGreatDoor.keep hb h1,h2.keep hb⟩
theorem col_at {base : Nat} {w0 w : World} {g Ln n : Nat} {us : List Value} {next : List (List Int)} (h : Hold base w0 w ((⟨Vs g Ln Ln,59,1,us.length,us⟩ : Ow) :: List.zipWith oW us (colP next Ln n 0))) (hus : us.length = Ln) : aej w g next Ln n:=fun c hc=>by
 have hj:=ael (f:=oW) (us:=us) (Ls:=colP next Ln n 0) (by rw [pr]; exact hus) (j:=c) (by rw [pr]; exact hc);have e:=m9 (next:=next) (i:=n) (k:=0) hc;rw [if_neg (by omega)] at e;rw [e] at hj;have hcu : c < us.length:=by omega
 obtain ⟨uc,hu⟩ : ∃ uc,us[c] = uc:=⟨_,rfl⟩;rw [hu] at hj;have hi : ((⟨Vs g Ln Ln,59,1,us.length,us⟩ : Ow) :: List.zipWith oW us (colP next Ln n 0))[c + 1]? = some (oW uc ((List.range n).map fun s=>tgtM next (s : Nat) c)):=by rw [List.getElem?_cons_succ]; exact hj
 obtain ⟨ad,q,hv,-⟩:=h.r.any hi;have hcell:=h.r.cellV (i:=0) (g:=g) (n:=Ln) (c:=Ln) rfl (j:=c) (u:=uc) (by rw [List.getElem?_eq_getElem hcu,hu]);rw [hv] at hcell;refine ⟨ad,_,q,hcell,fun y hy=>?_⟩;obtain ⟨g',q',hv',-⟩:=h.r.nilOr hi (by simp; omega);rw [hv] at hv';simp only [Value.slice.injEq] at hv';obtain ⟨rfl,-,rfl⟩:=hv';refine ⟨g',0,rfl,by simp; exact hy,?_⟩;rw [hv] at hi;exact h.r.cellV hi (j:=y) (by simp [hy])
theorem re_at {base : Nat} {w0 w : World} {g n : Nat} {us : List Value} {xs : List Nat} (h : Hold base w0 w ((⟨Vs g n n,58,1,us.length,us⟩ : Ow) :: List.zipWith oC us xs)) (hus : us.length = n) (hxs : xs.length = n) : ReAt w g n xs:=fun i hi=>by
 have hj:=ael (f:=oC) (us:=us) (Ls:=xs) (by omega) (j:=i) (by omega);have hiu : i < us.length:=by omega
 have hix : i < xs.length:=by omega
 have hcell:=h.r.cellV (i:=0) (g:=g) (n:=n) (c:=n) rfl (j:=i) (u:=us[i]) (List.getElem?_eq_getElem hiu);refine ⟨_,hcell,?_⟩;have hk:=oC_at h (i:=i + 1) (v:=us[i]) (x:=xs[i]) (by rw [List.getElem?_cons_succ]; exact hj);have e : gt xs i = xs[i]:=by simp [gt,List.getD_eq_getElem?_getD,hix]
 rw [e];exact hk
section
variable {Ln : Nat} {next : List (List Int)} {fin hid : List Bool} {sx : Int} {xs : List Nat}
def o0 (Ln : Nat) (next : List (List Int)) (hid : List Bool) (y : Nat) : Prop:=y < 2 ^ next.length ∧ HCl Ln next hid (bitP y)
theorem afb {S : Nat → Prop} {j : Nat} : HRun Ln next hid S [] j ↔ ∃ i,S i ∧ HRun Ln next hid (fun k=>k = i) [] j:=
 ⟨fun ⟨i,v,h1,h2⟩=>⟨i,h1,i,v,rfl,h2⟩,fun ⟨_,h1,_,v,e,h2⟩=>⟨_,v,h1,e ▸ h2⟩⟩
theorem aai {i k j : Nat} (h1 : HRun Ln next hid (fun a=>a = i) [] k) (h2 : HRun Ln next hid (fun a=>a = k) [] j) : HRun Ln next hid (fun a=>a = i) [] j:=
 HCl.least HRun.closed (fun a ha=>by subst ha; exact h1) h2
theorem aew (hs : Shape (Ln : Int) sx next fin) (hR : (∀ s,s < next.length → gt xs s < 16384 ∧ ∀ j,bitP (gt xs s) j ↔ HRun Ln next hid (fun i=>i = s) [] j)) {y c z : Nat} (hy : o0 Ln next hid y) (hc : c < Ln) (hz : ∀ j,bitP z j ↔ hidB hid c = false ∧ ∃ a,bitP y a ∧ 0 ≤ tgtM next (a : Nat) c ∧ bitP (gt xs (tgtM next (a : Nat) c).toNat) j) : stM Ln next.length next hid y c = z:=by
 refine ww fun j=>?_;rw [hz j]
 cases hh : hidB hid c with
 | true=>
   rw [stM,if_pos hh];simp [bitP]
 | false=>
   rw [nq hs hy.1 hc hh j,afb]
   constructor
   ·rintro ⟨k,⟨a,ha,hst⟩,hk⟩;have ha':=hy.2.nil.1 ha;rw [dv (by omega)] at hst;have hr:=dm hs a (by omega) (by have:=tj hy.1 ha'; omega) c (by rw [Int.toNat_natCast]; exact hc);refine ⟨rfl,a,ha',by omega,?_⟩;rw [hst,Int.toNat_natCast];exact ((hR k (by omega)).2 j).2 hk
   ·rintro ⟨-,a,ha,h0,hj⟩;obtain ⟨k,hk⟩:=Int.eq_ofNat_of_zero_le h0;have hr:=dm hs a (by omega) (by have:=tj hy.1 ha; omega) c (by rw [Int.toNat_natCast]; exact hc);rw [hk,Int.toNat_natCast] at hj;exact ⟨k,⟨a,HRun.self ha,by rw [dv (by omega),hk]⟩,((hR k (by omega)).2 j).1 hj⟩
theorem zu (hs : Shape (Ln : Int) sx next fin) {y c : Nat} (hy : y < 2 ^ next.length) (hc : c < Ln) : o0 Ln next hid (stM Ln next.length next hid y c):=by
 refine ⟨abq,?_⟩
 cases hh : hidB hid c with
 | true=>
   rw [stM,if_pos hh];intro i c' k hi;simp [bitP] at hi
 | false=>
   intro i c' k hi hc2 hh2 hst;exact (nq hs hy hc hh k).2 (HRun.closed i c' k ((nq hs hy hc hh i).1 hi) hc2 hh2 hst)
theorem yu (hs : Shape (Ln : Int) sx next fin) : o0 Ln next hid (fz Ln next hid sx):=
 ⟨lu _ _,fun i c k hi hc hh hst=>(ig hs k).2 (HRun.closed i c k ((ig hs i).1 hi) hc hh hst)⟩
theorem ajf (hs : Shape (Ln : Int) sx next fin) (hR : (∀ s,s < next.length → gt xs s < 16384 ∧ ∀ j,bitP (gt xs s) j ↔ HRun Ln next hid (fun i=>i = s) [] j)) (h0 : 0 ≤ sx) : gt xs sx.toNat = fz Ln next hid sx:=by
 obtain ⟨k,rfl⟩:=Int.eq_ofNat_of_zero_le h0
 have:=hs.s2
 refine ww fun j=>?_;rw [Int.toNat_natCast,(hR k (by omega)).2 j,ig hs j]
 constructor
 ·exact fun h=>h.mono fun i hi=>by omega
 ·exact fun h=>h.mono fun i hi=>by omega
theorem adr (hs : Shape (Ln : Int) sx next fin) (h0 : sx < 0) : fz Ln next hid sx = 0:=Classical.byContradiction fun hn=>by
 have h1:=(s5 (hid:=hid) hs).2 h0;rw [cd,if_neg hn] at h1;omega
theorem aft {n : Nat} (hn : n ≤ 14) : 2 ^ n ≤ 16384:=Nat.pow_le_pow_right (n:=2) (by omega) hn
variable {w : World} {hb cb rb gc gr mb : Nat} {vh ve : Value}
theorem agi (hs : Shape (Ln : Int) sx next fin) (hn : next.length ≤ 14) (hR : (∀ s,s < next.length → gt xs s < 16384 ∧ ∀ j,bitP (gt xs s) j ↔ HRun Ln next hid (fun i=>i = s) [] j)) (ht : pt w) (hh : w.cell? ⟨hb,0,none⟩ = some vh) (hhs : Sl w vh hid je) (hhl : hid.length = Ln) (hcc : w.cell? ⟨cb,0,none⟩ = some (Vs gc Ln Ln)) (hca : aej w gc next Ln next.length) (hr : w.cell? ⟨rb,0,none⟩ = some (Vs gr next.length next.length)) (hra : ReAt w gr next.length xs) {y c : Nat} (hy : o0 Ln next hid y) (hc : c < Ln) :
  Calls Tryz.prog 26 #[setV y,Vi c,Vp hb,Vp cb,Vp rb] w fun e w'=>∃ z : Nat,z < 2 ^ next.length ∧ (z ≠ 0 → o0 Ln next hid z) ∧ e = .returned (setV z) ∧ tgtM (kx Ln next.length next hid) (y : Int) c = cd 0 z ∧ RowKit.Below w.heap.size w w':=by
 obtain ⟨gh,oh,kh,rfl,hhc⟩:=nw hhs (k:=c) (by omega);obtain ⟨ad,m,q,hcv,hcx⟩:=hca c hc;have hp:=aft hn;have hyl : ∀ a,bitP y a → a < next.length:=fun a ha=>tj hy.1 ha;have hgt : ∀ a,bitP y a → -1 ≤ tgtM next (a : Nat) c ∧ tgtM next (a : Nat) c < next.length:=fun a ha=>dm hs a (by omega) (by have:=hyl a ha; omega) c (by rw [Int.toNat_natCast]; exact hc);have hrl : ∀ i j,i < next.length → bitP (gt xs i) j → j < next.length:=fun i j hi hj=>xc hs (fun a ha=>by subst ha; exact hi) (((hR i hi).2 j).1 hj)
 refine (agm (R:=gt xs) (N:=next.length) (nx:=fun a=>tgtM next (a : Nat) c) w (by have:=hy.1; omega) ht hh (by omega) hhc hcc hc hcv (fun a ha=>hcx a (hyl a ha)) hr (fun i hi=>⟨hi,hra i hi⟩) hgt hn (fun i hi=>(hR i hi).1)
  (fun i k j hi h1 h2=>((hR i hi).2 j).2 (aai (((hR i hi).2 k).1 h1) (((hR k (hrl i k hi h1)).2 j).1 h2)))).mono ?_
 rintro e w' ⟨hB,z,hz,rfl,hzb⟩;have e1 : hidB hid c = hid[c]'(by omega):=by simp [hidB,List.getD_eq_getElem?_getD,hhl,hc]
 have e2:=aew hs hR hy hc (z:=z) (fun j=>by rw [hzb j,e1]);have e3:=zu (hid:=hid) hs hy.1 hc;rw [e2] at e3;exact ⟨z,e3.1,fun _=>e3,rfl,by rw [lw hy.1 hc,e2],hB⟩
theorem ajb (hs : Shape (Ln : Int) sx next fin) (hn : next.length ≤ 14) (ht : pt w) (hm : w.cell? ⟨mb,0 + 3,none⟩ = some ve) (he : Sl w ve fin je) {y : Nat} (hy : o0 Ln next hid y) :
  Calls Tryz.prog 29 #[setV y,Vp mb] w fun e w'=>e = .returned (.bool ((qj Ln next.length next fin hid).getD y false)) ∧ RowKit.Below w.heap.size w w':=by
 have hp:=aft hn;have hfl:=hs.fin;refine (agl (fin:=fin) w (by have:=hy.1; omega) ht hm (fun a ha=>?_)).mono ?_
 ·have hal : a < fin.length:=by have:=tj hy.1 ha; omega
  obtain ⟨g,o,c,rfl,hc⟩:=nw he hal;exact ⟨g,o,_,c,rfl,hal,by rw [hc]; simp [List.getD_eq_getElem?_getD,hal]⟩
 ·rintro e w' ⟨hB,b,rfl,hb⟩;refine ⟨?_,hB⟩
  have : b = (qj Ln next.length next fin hid).getD y false:=Bool.eq_iff_iff.2 (by
   rw [hb,yn hy.1];exact ⟨fun ⟨j,h1,h2⟩=>⟨j,HRun.self h1,h2⟩,fun ⟨j,h1,h2⟩=>⟨j,hy.2.nil.1 h1,h2⟩⟩)
  rw [this]
end
end
section
def setP (sets : List (List Bool)) (a j : Nat) : Prop:=(sets.getD a []).getD j false = true
def t7 (L : Nat) (nx : List (List Int)) (hid : List Bool) (sets : List (List Bool)) (a c : Nat) (t : Int) : Prop:=
 (hidB hid c = true ∧ t = -1) ∨ (hidB hid c = false ∧ t = -1 ∧ ∀ j,¬ mc nx (setP sets a) c j) ∨
 (hidB hid c = false ∧ ∃ k : Nat,t = k ∧ k < sets.length ∧ ∀ j,setP sets k j ↔ HRun L nx hid (mc nx (setP sets a) c) [] j)
structure HideI (L : Nat) (nx : List (List Int)) (fx hid : List Bool) (sx : Int) (sets : List (List Bool)) (rows : List (List Int)) (fins : List Bool) : Prop where
 pos : 0 < sets.length
 len : ∀ r ∈ sets,r.length = nx.length
 nd : sets.Nodup
 reach : ∀ a,a < sets.length → (∃ w,Word L w ∧ ∀ j,setP sets a j ↔ HRun L nx hid (fun i=>(i : Int) = sx) w j) ∧ ∃ j,setP sets a j
 first : ∀ j,setP sets 0 j ↔ HRun L nx hid (fun i=>(i : Int) = sx) [] j
 le : rows.length ≤ sets.length
 fl : fins.length = rows.length
 fin : ∀ a,a < rows.length → (fins.getD a false = true ↔ ∃ j,setP sets a j ∧ fx.getD j false = true)
 row : ∀ a (h : a < rows.length),rows[a].length = L ∧ ∀ c (hc : c < rows[a].length),t7 L nx hid sets a c rows[a][c]
section
variable {L : Nat} {nx : List (List Int)} {fx hid : List Bool} {sx : Int} {sets : List (List Bool)} {rows : List (List Int)} {fins : List Bool}
theorem ko {r : List Bool} {a : Nat} (ha : a < sets.length) : setP (sets ++ [r]) a = setP sets a:=by
 funext j
 unfold setP;rw [List.getD_eq_getElem?_getD (l:=sets ++ [r]),List.getElem?_append_left ha,← List.getD_eq_getElem?_getD]
theorem abt {r : List Bool} : setP (sets ++ [r]) sets.length = fun j=>r.getD j false = true:=by
 funext j
 unfold setP;rw [List.getD_eq_getElem?_getD (l:=sets ++ [r]),List.getElem?_append_right (Nat.le_refl _)];simp
theorem o8 {a : Nat} (ha : a < sets.length) : setP sets a = fun j=>sets[a].getD j false = true:=by
 funext j
 unfold setP;rw [List.getD_eq_getElem?_getD (l:=sets),List.getElem?_eq_getElem ha,Option.getD_some]
theorem t7.app {r : List Bool} {a c : Nat} {t : Int} (ha : a < sets.length) (h : t7 L nx hid sets a c t) : t7 L nx hid (sets ++ [r]) a c t:=by
 unfold t7 at h ⊢;rw [ko ha]
 rcases h with h | h | ⟨h1,k,h2,h3,h4⟩
 ·exact .inl h
 ·exact .inr (.inl h)
 ·refine .inr (.inr ⟨h1,k,h2,by simp; omega,?_⟩);rw [ko h3];exact h4
theorem HideI.start {r : List Bool} (hl : r.length = nx.length) (hr : ∀ j,r.getD j false = true ↔ HRun L nx hid (fun i=>(i : Int) = sx) [] j) (hs : 0 ≤ sx) : HideI L nx fx hid sx [r] [] []:=by
 have e : setP [r] 0 = fun j=>r.getD j false = true:=rfl;refine ⟨by simp,by simpa using hl,by simp,fun a ha=>?_,fun j=>by rw [e]; exact hr j,Nat.zero_le _,rfl,fun a ha=>by simp at ha,fun a ha=>by simp at ha⟩;obtain rfl : a = 0:=by simpa using ha
 rw [e];obtain ⟨z,rfl⟩:=Int.eq_ofNat_of_zero_le hs;exact ⟨⟨[],Word.nil _,hr⟩,z,(hr z).2 (HRun.self rfl)⟩
theorem HideI.add_set (h : HideI L nx fx hid sx sets rows fins) {r : List Bool} {i c : Nat} (hi : i < sets.length) (hc : c < L) (hh : hidB hid c = false) (hl : r.length = nx.length) (hn : r ∉ sets)
  (hr : ∀ j,r.getD j false = true ↔ HRun L nx hid (mc nx (setP sets i) c) [] j) (hne : ∃ j,mc nx (setP sets i) c j) : HideI L nx fx hid sx (sets ++ [r]) rows fins:=by
 have hle:=h.le;refine ⟨by simp,fun x hx=>?_,?_,fun a ha=>?_,?_,by simp; omega,h.fl,fun a ha=>?_,fun a ha=>?_⟩
 ·rcases List.mem_append.1 hx with hx | hx
  ·exact h.len x hx
  ·rw [List.mem_singleton.1 hx]; exact hl
 ·rw [List.nodup_append];exact ⟨h.nd,by simp,fun x hx y hy e=>hn (by rw [List.mem_singleton.1 hy] at e; rw [← e]; exact hx)⟩
 ·rcases Nat.lt_or_ge a sets.length with h1 | h1
  ·rw [ko h1]; exact h.reach a h1
  ·obtain rfl : a = sets.length:=by simp at ha; omega
   rw [abt];obtain ⟨j,hj⟩:=hne;exact ⟨HSet.step (h.reach i hi).1 hc hh hr,j,(hr j).2 (HRun.self hj)⟩
 ·rw [ko h.pos]; exact h.first
 ·rw [ko (by omega)]; exact h.fin a ha
 ·obtain ⟨h1,h2⟩:=h.row a ha;exact ⟨h1,fun c hc=>(h2 c hc).app (by omega)⟩
theorem HideI.add_row (h : HideI L nx fx hid sx sets rows fins) {row : List Int} {e : Bool} (hi : rows.length < sets.length) (hl : row.length = L) (hr : ∀ c (hc : c < row.length),t7 L nx hid sets rows.length c row[c])
  (he : e = true ↔ ∃ j,setP sets rows.length j ∧ fx.getD j false = true) : HideI L nx fx hid sx sets (rows ++ [row]) (fins ++ [e]):=by
 have hfl:=h.fl;refine ⟨h.pos,h.len,h.nd,h.reach,h.first,by simp; omega,by simp [h.fl],fun a ha=>?_,fun a ha=>?_⟩
 ·rcases Nat.lt_or_ge a rows.length with h1 | h1
  ·rw [List.getD_eq_getElem?_getD,List.getElem?_append_left (by omega),← List.getD_eq_getElem?_getD]; exact h.fin a h1
  ·obtain rfl : a = rows.length:=by simp at ha; omega
   rw [List.getD_eq_getElem?_getD,List.getElem?_append_right (by omega)]
   simpa [h.fl] using he
 ·rcases Nat.lt_or_ge a rows.length with h1 | h1
  ·have:=h.row a h1
   simp only [List.getElem_append_left h1];exact this
  ·obtain rfl : a = rows.length:=by simp at ha; omega
   simp only [List.getElem_append_right (Nat.le_refl _),Nat.sub_self,List.getElem_cons_zero];exact ⟨hl,hr⟩
theorem HideI.tgt (h : HideI L nx fx hid sx sets rows fins) {a c : Nat} (ha : a < rows.length) (hc : c < L) : t7 L nx hid sets a c (tgtM rows a c):=by
 obtain ⟨h1,h2⟩:=h.row a ha;have hc' : c < rows[a].length:=by omega
 have e : tgtM rows (a : Int) c = rows[a][c]:=by rw [tgtM,Int.toNat_natCast]; simp [List.getD_eq_getElem?_getD,ha,hc']
 rw [e];exact h2 c hc'
theorem HideI.done (h : HideI L nx fx hid sx sets rows fins) (hd : rows.length = sets.length) : SetsI L nx fx hid rows fins sets.length (setP sets):=by
 refine ⟨fun a ha=>?_,fun a ha=>h.fin a (by omega),fun a c ha hc hh=>?_,fun a c ha hc hh hneg j hj=>?_,fun a c ha hc hh hpos=>?_⟩
 ·obtain ⟨⟨w,hw,hr⟩,-⟩:=h.reach a ha;exact fun i c k hi hc hh hs=>(hr k).2 (HRun.closed i c k ((hr i).1 hi) hc hh hs)
 ·rcases h.tgt (a:=a) (by omega) hc with ⟨_,e⟩ | ⟨h1,_⟩ | ⟨h1,_⟩
  ·rw [e]; decide
  ·rw [hh] at h1; cases h1
  ·rw [hh] at h1; cases h1
 ·rcases h.tgt (a:=a) (by omega) hc with ⟨h1,e⟩ | ⟨_,_,h1⟩ | ⟨_,k,h1,_⟩
  ·rw [hh] at h1; cases h1
  ·exact h1 j hj
  ·omega
 ·rcases h.tgt (a:=a) (by omega) hc with ⟨h1,e⟩ | ⟨_,h1,_⟩ | ⟨_,k,h1,h2,h3⟩
  ·rw [hh] at h1; cases h1
  ·omega
  ·rw [h1,Int.toNat_natCast];exact ⟨h2,h3⟩
theorem HideI.shape (h : HideI L nx fx hid sx sets rows fins) (hd : rows.length = sets.length) : Shape (L : Int) 0 rows fins:=by
 have hp:=h.pos;refine ⟨by omega,h.fl,by omega,by omega,fun _=>by omega,fun k hk=>?_⟩;obtain ⟨h1,h2⟩:=h.row k hk;refine ⟨by omega,fun j hj=>?_⟩
 rcases h2 j hj with ⟨_,e⟩ | ⟨_,e,_⟩ | ⟨_,k',e,h3,_⟩ <;> omega
theorem HideI.full (h : HideI L nx fx hid sx sets rows fins) (hm : 4000 < sets.length) (hb : ∀ a j,setP sets a j → j < nx.length) : zm L nx hid sx:=by
 refine aay (D:=setP sets) hm h.reach (fun a b ha hb' he=>?_)
 have e : sets[a] = sets[b]:=by
  have la:=h.len _ (List.getElem_mem ha);have lb:=h.len _ (List.getElem_mem hb');refine List.ext_getElem (by omega) fun j h1 h2=>?_
  have:=kb he (j:=j) (by omega)
  rw [o8 ha,o8 hb'] at this;simp only [List.getD_eq_getElem?_getD,List.getElem?_eq_getElem h1,List.getElem?_eq_getElem h2,Option.getD_some] at this;exact Bool.eq_iff_iff.2 this
 have hp:=List.pairwise_iff_getElem.1 h.nd
 rcases Nat.lt_trichotomy a b with h1 | h1 | h1
 ·exact (hp a b ha hb' h1 e).elim
 ·exact h1
 ·exact (hp b a hb' ha h1 e.symm).elim
end
end
section
open Go Sym
section
variable {w w' : World} {g q T T' k k' i j : Nat} {v : Value}
end
section
variable {base top : Nat} {w w' : World} {n L q i k : Nat} {vn ve v : Value} {next : List (List Int)} {fin : List Bool}
theorem OwnM.put (h : OwnM base w next fin vn ve) {b : Nat} {vs : List Value} (ho : OwnB w b 25 vs) (us : List Value) : OwnM base (w.setCells b 0 us) next fin vn ve:=by
 have hg:=bz b us 0 w;have key : ∀ {e s m : Nat} {u : Value} {xs : List Value},w.ownsRow base e s u m xs → e ≠ 25 → (w.setCells b 0 us).ownsRow base e s u m xs:=fun {e s m u xs} h1 he=>h1.kept hg (.inr fun e2=>gz h1 ho he e2.symm);obtain ⟨us',hl,hn,hu⟩:=h.n
 exact ⟨key h.e (by decide),us',hl,key hn (by decide),fun j hj=>by
  obtain ⟨u,u1,u2,u3⟩:=hu j hj;exact ⟨u,u1,key u2 (by decide),u3⟩⟩
theorem yp {w0 : World} {vs : List Value} (h : Hold base w0 w (oB ve fin :: dk vn vs next)) (hl : vs.length = next.length) (hI : ∀ l ∈ next,∀ x ∈ l,I64 x) : OwnM base w next fin vn ve:=by
 refine ⟨h.r.1 0 _ rfl,vs,hl,by have:=h.r.1 1 _ rfl; rw [← hl]; exact this,fun j hj=>?_⟩;have hj' : j < vs.length:=by omega
 refine ⟨vs[j],List.getElem?_eq_getElem hj',?_,hI _ (List.getElem_mem hj)⟩
 have:=h.r.1 (j + 2) (oI vs[j] next[j]) (by
  show (List.zipWith (fun v l=>oI v l) vs next)[j]? = _;rw [List.getElem?_zipWith,List.getElem?_eq_getElem hj',List.getElem?_eq_getElem hj])
 exact this
end
section
variable {w0 w w' : World} {t Ln q k : Nat} {bs : List (Nat × List Value)} {ss : List (Nat × Nat × Value × Value)} {ms : List (Nat × List (List Int) × List Bool × Value × Value)}
end
end
section
open Go Sym
theorem akc {base : Nat} {w : World} {next : List (List Int)} {fin : List Bool} {vn ve : Value} (h : OwnM base w next fin vn ve) : ∃ a c,vn = .slice a next.length c:=by
 obtain ⟨us,hl,hn,hu⟩:=h.n
 rcases hn.2 with ⟨h1,h2⟩ | ⟨g,cap,cur,h1,_⟩
 ·exact ⟨none,0,by rw [h1,h2]⟩
 ·exact ⟨_,_,h1⟩
theorem akd {base : Nat} {w : World} {next : List (List Int)} {fin : List Bool} {vn ve : Value} (h : OwnM base w next fin vn ve) : ∃ a c,ve = .slice a fin.length c:=by
 rcases h.e.2 with ⟨h1,h2⟩ | ⟨g,cap,cur,h1,_⟩
 ·exact ⟨none,0,by rw [h1,h2]⟩
 ·exact ⟨_,_,h1⟩
end
section
open Go Sym
theorem y4 : bk Tryz.prog 19 = true:=by kernel_rfl
theorem en_sets : bk Tryz.prog 20 = true:=by kernel_rfl
theorem vt : bk Tryz.prog 18 = true:=by kernel_rfl
def ja (us : List Value) (sets : List (List Bool)) : List Ow:=List.zipWith (fun v l=>oB v l) us sets
theorem ae8 {us : List Value} {sets : List (List Bool)} (hl : us.length = sets.length) {j : Nat} (hj : j < sets.length) : oB (us[j]'(by omega)) sets[j] ∈ ja us sets:=by
 have : (ja us sets)[j]? = some (oB (us[j]'(by omega)) sets[j]):=by
  unfold ja;rw [List.getElem?_zipWith,List.getElem?_eq_getElem (show j < us.length by omega),List.getElem?_eq_getElem hj]
 exact List.mem_of_getElem? this
theorem ac5 {us : List Value} {sets : List (List Bool)} (hl : us.length = sets.length) {v : Value} {r : List Bool} : ja (us ++ [v]) (sets ++ [r]) = ja us sets ++ [oB v r]:=by
 unfold ja;rw [List.zipWith_append hl];rfl
section
variable {base : Nat} {w0 w : World} {l : List Ow}
theorem zz {vl : Value} {us : List Value} {sets : List (List Bool)} (h : Hold base w0 w l) {i : Nat} (hi : l[i]? = some ⟨vl,23,1,us.length,us⟩) (hl : us.length = sets.length) (hm : ∀ x ∈ ja us sets,x ∈ l) : Sl w vl sets PBs ∧ Ok vl:=
 jn (P:=PBs) (h.r.1 i _ hi) hl (fun j hj=>by
  have hj' : j < us.length:=by omega
  refine ⟨us[j],List.getElem?_eq_getElem hj',?_⟩;obtain ⟨m,hm1,hm2⟩:=List.mem_iff_getElem.1 (hm _ (ae8 hl hj));exact (h.r.slB (i:=m) (by rw [List.getElem?_eq_getElem hm1,hm2])).1)
theorem abs {gl : Option Addr} {cl : Nat} {us : List Value} {sets : List (List Bool)} (h : Sl w (.slice gl us.length cl) sets PBs) {i k : Nat} (hi : i < sets.length) (hk : k < sets[i].length) :
  ∃ b o b2 o2 c2,gl = some ⟨b,o,none⟩ ∧ w.cell? ⟨b,o + i,none⟩ = some (.slice (some ⟨b2,o2,none⟩) sets[i].length c2) ∧ w.cell? ⟨b2,o2 + k,none⟩ = some (.bool sets[i][k]):=by
 obtain ⟨b,o,c,u,e,hu,hs⟩:=afx h hi;simp only [Value.slice.injEq] at e;obtain ⟨b2,o2,c2,rfl,hc⟩:=nw hs hk;exact ⟨b,o,b2,o2,c2,e.1,hu,hc⟩
end
theorem ut {w w' : World} {α : Type} {v : Value} {P : World → Value → α → Prop} (h : Sl w v [] P) : Sl w' v [] P:=by
 obtain ⟨a,b,o,c,e,h1,h2,h3,h4⟩:=h;exact ⟨a,b,o,c,e,h1,h2,h3,fun i hi=>by simp at hi⟩
theorem ai9 {L : Nat} {next : List (List Int)} {fin hid : List Bool} {s0 : Int} (hs : Shape (L : Int) s0 next fin) {S : Nat → Prop} (hS : ∀ i,S i → i < next.length) {w : List Nat} {j : Nat} (h : HRun L next hid S w j) : j < next.length:=by
 obtain ⟨i,v,h1,h2,-,h4⟩:=h
 have:=j9 hs v i (by rwa [Int.toNat_natCast]) (by omega) (by have:=hS i h1; omega)
 omega
theorem z8 {sets : List (List Bool)} {i j : Nat} (hi : i < sets.length) (h : setP sets i j) : j < sets[i].length:=by
 rw [o8 hi] at h;refine Nat.lt_of_not_le fun hle=>?_;rw [List.getD_eq_getElem?_getD,List.getElem?_eq_none hle] at h
 cases h
theorem aaa {sets : List (List Bool)} {i k : Nat} (hi : i < sets.length) (hk : k < sets[i].length) : setP sets i k ↔ sets[i][k] = true:=by
 rw [o8 hi];show sets[i].getD k false = true ↔ _;rw [List.getD_eq_getElem?_getD,List.getElem?_eq_getElem hk,Option.getD_some]
theorem ab7 {w : World} : Ma w 0 0 [] [] (.slice none 0 0) (.slice none 0 0):=⟨⟨none,0,0,0,rfl,by simp,by simp,by omega,by simp⟩,⟨none,0,0,0,rfl,by simp,by simp,by omega,by simp⟩,by unfold I64; omega,by unfold I64; omega,.inl (.inl rfl),.inl (.inl rfl)⟩
theorem agc {w : World} {L s : Int} {n : List (List Int)} {f : List Bool} {vn ve : Value} {base b : Nat} {vs : List Value} (h : OwnM base w n f vn ve) (hL : I64 L) (hs : I64 s) (ho : OwnB w b 25 vs) (us : List Value) : Ma (w.setCells b 0 us) L s n f vn ve:=(h.put ho us).ma hL hs
set_option maxHeartbeats 4000000 in
theorem agk : aj7 6:=by
 intro L s vn ve vh next fin hid w hm hh hn14;refine Sym.c8 (args:=[.agg #[Vi L,Vi s,vn,ve],vh]) Tryz.func6 rfl rfl rfl (fun a0 hS0=>?_);obtain ⟨ah,ch,rfl⟩:=hh.len;refine wp_seq (bg (α:=Nat × Nat) (fun x=>[(1,.slice ah hid.length ch),(2,Vp x.1),(4,Vp x.2)]) (fun x w'=>RowKit.Below w.heap.size w w' ∧ OwnB w' x.1 25 [Vi L,Vi s,vn,ve] ∧ OwnB w' x.2 25 [Vi 0,Vi 0,.slice none 0 0,.slice none 0 0] ∧ w.heap.size ≤ x.2) af hS0 ?_ (fun x a w1 hS h=>?_))
 ·have hb1:=ao w (.cells #[Vi L,Vi s,vn,ve] 25);have hb2:=ao (w.alloc (.cells #[Vi L,Vi s,vn,ve] 25)) (.cells #[Vi 0,Vi 0,.slice none 0 0,.slice none 0 0] 25);have o1:=(OwnB.new w [Vi L,Vi s,vn,ve] 25);refine zB rfl ?_;refine zB rfl ?_
  repeat refine zX rfl ?_
  exact aj ⟨(_,_),⟨rfl,rfl,rfl,trivial⟩,ak hb1 hb2,o1.keep hb2 o1.lt,OwnB.new _ _ _,hb1.size⟩
 obtain ⟨M,R⟩:=x;obtain ⟨hB,oM,oR,hRw⟩:=h;dsimp only at hS oM oR hRw;clear hS0;have hm1:=hm.keep hB;have hh1:=hh.keep hB (fun _ _ h=>h);obtain ⟨b28,hb28⟩ : ∃ b,(decide (de L s next fin ≠ 0) || decide ((hid.length : Int) ≠ L)) = b:=⟨_,rfl⟩;refine wp_seq (wp_seq (ai [(1,.slice ah hid.length ch),(2,Vp M),(4,Vp R),(28,.bool b28)] (fun w'=>RowKit.Below w1.heap.size w1 w') af hS ?_ (fun a w2 hS hw=>?_)))
 ·refine zA ([Vi L,Vi s,vn,ve]) rfl rfl (⟨oM.cell (i:=0) rfl,oM.cell (i:=1) rfl,oM.cell (i:=2) rfl,oM.cell (i:=3) rfl,trivial⟩) ?_;refine zF rfl (ajq) (aep L s vn ve next fin _ hm1) ?_;rintro e w2 ⟨rfl,k1⟩;refine ⟨_,rfl,?_⟩
  cases e1 : decide (de L s next fin ≠ 0)
  case true=>
   rw [e1,Bool.true_or] at hb28; subst hb28;refine zC rfl (e1) ?_
   repeat refine zX rfl ?_
   exact aj ⟨⟨rfl,rfl,rfl,rfl,trivial⟩,k1⟩
  case false=>
   rw [e1,Bool.false_or] at hb28; subst hb28;refine zC rfl (e1) ?_
   repeat refine zX rfl ?_
   refine zL rfl ((oM.keep k1 oM.lt).cell (i:=0) rfl) ?_;refine zC rfl (rfl) ?_
   repeat refine zX rfl ?_
   exact aj ⟨⟨rfl,rfl,rfl,rfl,trivial⟩,k1⟩
 replace hm1:=hm1.keep hw;replace hh1:=hh1.keep hw (fun _ _ h=>h);replace oM:=oM.keep hw oM.lt;replace oR:=oR.keep hw oR.lt;replace hB:=ak hB hw;clear hw;refine cond hS rfl (fun hT=>?_) (fun hF=>wp_skip ?_)
 ·rw [hT,Bool.or_eq_true,decide_eq_true_eq,decide_eq_true_eq] at hb28;have hg:=bz R [Vi 0,Vi 0,.slice none 0 0,.slice none 0 0] 0 w2;refine wp_seq (ai [(4,Vp R),(5,Vi 1)] (fun w'=>RowKit.Below w.heap.size w w' ∧ OwnB w' R 25 [Vi 0,Vi 0,.slice none 0 0,.slice none 0 0]) af hS ?_ (fun a w3 hS hw=>?_))
  ·repeat refine zX rfl ?_
   refine cj rfl rfl (anI rfl (anI rfl (anI (b0 oR) ?_)))
   repeat refine zX rfl ?_
   exact aj ⟨⟨rfl,rfl,trivial⟩,a6 hB hg (fun k hk=>by cases hk; exact hRw),oR.sets rfl⟩
  obtain ⟨hB3,oR3⟩:=hw;refine wp_ret ?_
  repeat first|refine a8 ?_|refine am ?_
  refine p9 af hS rfl rfl rfl rfl rfl (o:=0) (vs:=[Vi 0,Vi 0,.slice none 0 0,.slice none 0 0]) ⟨oR3.cell (i:=0) rfl,oR3.cell (i:=1) rfl,oR3.cell (i:=2) rfl,oR3.cell (i:=3) rfl,trivial⟩ rfl ⟨0,0,1,_,_,[],[],rfl,ab7,hB3,.inl ⟨hb28,rfl,rfl,rfl,rfl,rfl⟩⟩
 rw [hF,Bool.or_eq_false_iff] at hb28;have hv0 : de L s next fin = 0:=Decidable.not_not.1 (of_decide_eq_false hb28.1);have hhl : (hid.length : Int) = L:=Decidable.not_not.1 (of_decide_eq_false hb28.2);obtain ⟨hsh,hL300,-⟩:=db hv0;obtain ⟨Ln,rfl⟩:=Int.eq_ofNat_of_zero_le hsh.L0;have hLN : ((Ln : Nat) : Int).toNat = Ln:=Int.toNat_natCast _;refine wp_seq (bg (α:=Nat × (Int × Value × Value) × List (List Int) × List Bool) (fun x=>[(1,.slice ah hid.length ch),(2,Vp M),(4,Vp R),(6,Vp x.1)]) (fun x w'=>RowKit.Below w2.heap.size w2 w' ∧ MBx w' x.1 Ln x.2.1.1 x.2.2.1 x.2.2.2 x.2.1.2.1 x.2.1.2.2 ∧ Canon Ln x.2.1.1 x.2.2.1 x.2.2.2 ∧ dq Ln x.2.2.1 x.2.2.2 x.2.1.1 next fin s ∧ x.2.2.1.length ≤ next.length) af hS ?_ (fun x a w3 hS h=>?_))
 ·refine zA ([Vi Ln,Vi s,vn,ve]) rfl rfl (⟨oM.cell (i:=0) rfl,oM.cell (i:=1) rfl,oM.cell (i:=2) rfl,oM.cell (i:=3) rfl,trivial⟩) ?_;refine zF rfl (vt) (uu Ln s vn ve next fin _ hm1 hsh (by omega) (by omega)) ?_;rintro e w3 ⟨sx,vnx,vex,nx,fx,rfl,hO,k1,hcan,hal,hle⟩;refine ⟨_,rfl,?_⟩;have hsx : I64 sx:=by have:=hcan.shape.s1; have:=hcan.shape.s2; unfold I64; omega
  have hMx:=hO.ma hm.L hsx;obtain ⟨an,cn,hvn⟩:=akc hO;obtain ⟨ae,ce,hve⟩:=akd hO;have hp:=ab5 hMx;subst hvn hve;refine zB rfl ?_;refine cj rfl rfl (anI rfl (anI rfl (anI (b0 (OwnB.new w3 [Vi 0,Vi 0,.slice none 0 0,.slice none 0 0] 25)) ?_)))
  repeat refine zX rfl ?_
  exact aj ⟨(w3.heap.size,(sx,.slice an nx.length cn,.slice ae fx.length ce),nx,fx),⟨rfl,rfl,rfl,rfl,trivial⟩,ak k1 hp.1,hp.2,hcan,hal,hle⟩
 obtain ⟨X,⟨sx,vnx,vex⟩,nx,fx⟩:=x;obtain ⟨hw,hX,hcan,hal,hle⟩:=h;dsimp only at hS hX hcan hal hle;replace hm1:=hm1.keep hw;replace hh1:=hh1.keep hw (fun _ _ h=>h);replace oM:=oM.keep hw oM.lt;replace oR:=oR.keep hw oR.lt;replace hB:=ak hB hw;clear hw;have hshx:=hcan.shape;obtain ⟨an,cn,hvnx⟩:=hX.m.n.len;obtain ⟨ae,ce,hvex⟩:=hX.m.e.len;refine wp_seq (ai [(1,.slice ah hid.length ch),(2,Vp M),(4,Vp R),(6,Vp X),(7,Vi nx.length)] (· = w3) af hS ?_ (fun a w4 hS hw=>?_))
 ·subst hvnx
  repeat refine zX rfl ?_
  refine zL rfl (hX.o.cell (i:=2) rfl) ?_
  repeat refine zX rfl ?_
  exact aj ⟨⟨rfl,rfl,rfl,rfl,rfl,trivial⟩,rfl⟩
 subst hw;refine wp_seq (wp_seq (ai [(1,.slice ah hid.length ch),(2,Vp M),(4,Vp R),(6,Vp X),(7,Vi nx.length),(36,.bool (decide ((nx.length : Int) = 0)))] (· = w4) af hS ?_ (fun a w5 hS hw=>?_)))
 ·repeat refine zX rfl ?_
  refine zC rfl (rfl) ?_;exact aj ⟨⟨rfl,rfl,rfl,rfl,rfl,rfl,trivial⟩,rfl⟩
 subst hw;refine cond hS rfl (fun hT=>?_) (fun hF2=>wp_skip ?_)
 ·have h0 : nx.length = 0:=by have:=of_decide_eq_true hT; omega
  have hneg : sx < 0:=by have:=hshx.s2; omega
  have hg:=bz R [Vi Ln,Vi sx,vnx,vex] 0 w5;subst hvnx hvex;refine wp_seq (ai [(4,Vp R),(5,Vi 0)] (fun w'=>RowKit.Below w.heap.size w w' ∧ OwnB w' R 25 [Vi Ln,Vi sx,.slice an nx.length cn,.slice ae fx.length ce]) af hS ?_ (fun a w6 hS hw=>?_))
  ·refine zA ([Vi Ln,Vi sx,.slice an nx.length cn,.slice ae fx.length ce]) rfl rfl (hX.cells) ?_;refine cj rfl rfl (anI rfl (anI rfl (anI (b0 oR) ?_)))
   repeat refine zX rfl ?_
   exact aj ⟨⟨rfl,rfl,trivial⟩,a6 hB hg (fun k hk=>by cases hk; exact hRw),oR.sets rfl⟩
  obtain ⟨hB3,oR3⟩:=hw;have hnx : nx = []:=List.length_eq_zero_iff.1 h0;have hfx : fx = []:=List.length_eq_zero_iff.1 (by rw [hshx.fin]; exact h0);refine ?_;refine wp_ret ?_
  repeat first|refine a8 ?_|refine am ?_
  refine p9 af hS rfl rfl rfl rfl rfl (o:=0) (vs:=[Vi Ln,Vi sx,.slice an nx.length cn,.slice ae fx.length ce]) ⟨oR3.cell (i:=0) rfl,oR3.cell (i:=1) rfl,oR3.cell (i:=2) rfl,oR3.cell (i:=3) rfl,trivial⟩ rfl ⟨Ln,sx,0,_,_,nx,fx,rfl,?_,hB3,.inr ⟨hv0,hhl,sx,nx,fx,hcan,hal,.inr ⟨ach hneg,rfl,rfl,hcan,fun u hu=>?_⟩⟩⟩
  ·subst hnx hfx;exact ⟨ut hX.m.n,ut hX.m.e,hX.m.L,hX.m.s,hX.m.okn,hX.m.oke⟩
  ·rw [di _ _ _ hneg];exact ⟨fun h=>(by cases h),fun h=>(yq hneg h).elim⟩
 have hn0 : 0 < nx.length:=by have:=of_decide_eq_false hF2; omega
 have hs0 : sx = 0:=hcan.s0 hn0;have hnl : nx.length ≤ 14:=by omega
 have hhL : hid.length = Ln:=by omega
 have hcell : ∀ {u : World},RowKit.Below w5.heap.size w5 u → ∀ {k : Nat} (hk : k < hid.length),∃ b o,ah = some ⟨b,o,none⟩ ∧ u.cell? ⟨b,o + k,none⟩ = some (.bool hid[k]):=fun {u} hu {k} hk=>by
  obtain ⟨a,b,o,c,e,h1,-,-,h4⟩:=hh1.keep hu (fun _ _ h=>h);simp only [Value.slice.injEq] at e;obtain ⟨rfl,-,rfl⟩:=e;obtain ⟨x,hx,rfl⟩:=h4 k hk;exact ⟨b,o,h1 (by omega),hx⟩
 refine wp_seq (bg (α:=Nat) (fun q=>[(1,.slice ah hid.length ch),(2,Vp M),(4,Vp R),(6,Vp X),(7,Vi nx.length),(8,Vs q nx.length nx.length)]) (fun q w'=>Hold w5.heap.size w5 w' [oB (Vs q nx.length nx.length) (List.replicate nx.length false)]) af hS ?_ (fun q a w6 hS h=>?_))
 ·have h2:=(Hold.start w5).makeBr (n:=nx.length) (by omega)
  repeat refine zX rfl ?_
  refine zM (nx.length) rfl rfl rfl rfl rfl ((by show 1 * _ ≤ _; omega)) ((by omega)) ?_
  repeat refine zX rfl ?_
  exact aj ⟨_,⟨rfl,rfl,rfl,rfl,rfl,rfl,trivial⟩,h2⟩
 refine wp_seq (ai [(1,.slice ah hid.length ch),(2,Vp M),(4,Vp R),(6,Vp X),(7,Vi nx.length),(8,Vs q nx.length nx.length)] (fun w'=>Hold w5.heap.size w5 w' [oB (Vs q nx.length nx.length) ((List.replicate nx.length false).set 0 true)]) af hS ?_ (fun a w7 hS h=>?_))
 ·have h2:=h.storeB (i:=0) rfl 0 true
  repeat refine zX rfl ?_
  refine zI rfl (rfl) (hn0) ?_;refine zS rfl rfl (h.r.cellB (i:=0) rfl (j:=0) (by simpa using hn0)) (h.r.free (i:=0) rfl _) ?_;exact aj ⟨⟨rfl,rfl,rfl,rfl,rfl,rfl,trivial⟩,h2⟩
 have hf1 : ((List.replicate nx.length false).set 0 true).length = nx.length:=by simp
 have hf2 : ∀ j,((List.replicate nx.length false).set 0 true).getD j false = true ↔ (j : Int) = sx:=fun j=>by
  rw [g6,hs0]
  split
  ·rename_i e; simp [e.1.symm]
  ·rename_i e;have hj : ¬ j = 0:=fun e0=>e ⟨e0.symm,by simpa using hn0⟩;have : (List.replicate nx.length false).getD j false = false:=by rw [List.getD_eq_getElem?_getD,List.getElem?_replicate]; split <;> rfl
   rw [this]
   constructor
   ·intro h; cases h
   ·intro h; omega
 obtain ⟨fs,hfs⟩ : ∃ fs,(List.replicate nx.length false).set 0 true = fs:=⟨_,rfl⟩;rw [hfs] at h hf1 hf2;clear hfs;refine wp_seq (bg (α:=Value × Value × List Bool) (fun x=>[(1,.slice ah hid.length ch),(2,Vp M),(4,Vp R),(6,Vp X),(7,Vi nx.length),(9,x.1)]) (fun x w'=>x.2.2.length = nx.length ∧ (∀ j,x.2.2.getD j false = true ↔ HRun Ln nx hid (fun i=>(i : Int) = sx) [] j) ∧ Hold w5.heap.size w5 w' [⟨x.1,23,1,1,[x.2.1]⟩,oB x.2.1 x.2.2]) af hS ?_ (fun x a w8 hS h8=>?_))
 ·have hsl:=h.r.slB (i:=0) rfl;have hX':=hX.keep h.b;subst hvnx hvex;refine zA ([Vi Ln,Vi sx,.slice an nx.length cn,.slice ae fx.length ce]) rfl rfl (hX'.cells) ?_
  repeat refine zX rfl ?_
  refine zF rfl (y4) (vv Ln sx (.slice an nx.length cn) (.slice ae fx.length ce) (Vs q nx.length nx.length) (.slice ah hid.length ch) nx fx fs hid _ hX'.m hshx (by omega) hsl.1 hsl.2 hf1 (hh1.keep h.b (fun _ _ h=>h)) hhl) ?_;rintro e w8 ⟨g2,c2,out,rfl,hR2,k1,hl2,hr2⟩;refine ⟨_,rfl,?_⟩;have hH : Hold w7.heap.size w7 w8 [oB (Vs g2 nx.length c2) out]:=⟨hR2,k1,k1.size⟩;have h2:=(h.join hH).erase 1;have h3:=h2.lit (e:=23) (s:=1) (n:=1) #[Vs g2 nx.length c2] rfl (by decide)
  repeat refine zX rfl ?_
  refine b8 rfl rfl rfl ?_;refine exI [(0,Vs g2 nx.length c2)] (exI #[Vs g2 nx.length c2] (anI (anI rfl rfl) (anI (by decide) (anI (uh _ _ _ _) ?_))))
  repeat refine zX rfl ?_
  refine aj ⟨(Vs w8.heap.size 1 1,Vs g2 nx.length c2,out),⟨rfl,rfl,rfl,rfl,rfl,rfl,trivial⟩,hl2,fun j=>?_,h3⟩;rw [hr2,hLN];exact ⟨fun h=>h.mono fun i hi=>(hf2 i).1 hi,fun h=>h.mono fun i hi=>(hf2 i).2 hi⟩
 obtain ⟨vl,u0,set0⟩:=x;obtain ⟨hl0,hr0,h⟩:=h8;dsimp only at hS hl0 hr0 h;refine wp_seq (bg (α:=Nat) (fun O=>[(1,.slice ah hid.length ch),(2,Vp M),(4,Vp R),(6,Vp X),(7,Vi nx.length),(9,vl),(10,Vp O)]) (fun O w'=>Hold w5.heap.size w5 w' [oX 25 O 4 [Vi Ln,Vi 0,.slice none 0 0,.slice none 0 0],⟨vl,23,1,1,[u0]⟩,oB u0 set0]) af hS ?_ (fun O a w9 hS h=>?_))
 ·repeat refine zX rfl ?_
  refine zL rfl ((oM.keep h.b oM.lt).cell (i:=0) rfl) ?_
  repeat refine zX rfl ?_
  refine zB rfl ?_;have h2:=(h.var (T:=25) (k:=4) [Vi 0,Vi 0,.slice none 0 0,.slice none 0 0] [Vi Ln,Vi 0,.slice none 0 0,.slice none 0 0] rfl rfl).1;refine cj rfl rfl (anI rfl (anI rfl (anI (b0 (OwnB.new w8 [Vi 0,Vi 0,.slice none 0 0,.slice none 0 0] 25)) ?_)));exact aj ⟨_,⟨rfl,rfl,rfl,rfl,rfl,rfl,rfl,trivial⟩,h2⟩
 refine wp_seq (wp_seq (ai [(1,.slice ah hid.length ch),(2,Vp M),(4,Vp R),(6,Vp X),(7,Vi nx.length),(9,vl),(10,Vp O),(11,Vi (0 : Nat))] (· = w9) af hS ?_ (fun a w10 hS hw=>?_)))
 ·repeat refine zX rfl ?_
  exact aj ⟨⟨rfl,rfl,rfl,rfl,rfl,rfl,rfl,rfl,trivial⟩,rfl⟩
 subst hw;have hI0 : HideI Ln nx fx hid sx [set0] [] []:=HideI.start hl0 hr0 (by omega)
 have h0 : Hold w5.heap.size w5 w10 (oX 25 O 4 [Vi Ln,Vi 0,.slice none 0 0,.slice none 0 0] :: oB (.slice none 0 0) [] :: ⟨vl,23,1,[u0].length,[u0]⟩ :: (dk (.slice none 0 0) [] [] ++ ja [u0] [set0])):=by
  exact ((h.nil 34 1).nil 4 1).perm (.trans (.cons _ (.swap _ _ _)) (.trans (.swap _ _ _) (.cons _ (.cons _ (.swap _ _ _)))))
 clear h;have hdl : ∀ (j : Nat),HRun Ln nx hid (fun i=>(i : Int) = sx) [] j → j < nx.length:=fun j hj=>ai9 hshx (fun i hi=>by have:=hshx.s2; omega) hj
 refine wp_block (cz hS (fun γ E wr=>∃ (i : Nat) (vl vN vE : Value) (us vs : List Value) (sets : List (List Bool)) (rows : List (List Int)) (fins : List Bool),E = [(1,.slice ah hid.length ch),(2,Vp M),(4,Vp R),(6,Vp X),(7,Vi nx.length),(9,vl),(10,Vp O),(11,Vi i)] ∧ γ = 4001 - i ∧ i = rows.length ∧ us.length = sets.length ∧ vs.length = rows.length ∧ sets.length ≤ 4000 ∧ HideI Ln nx fx hid sx sets rows fins ∧ Hold w5.heap.size w5 wr (oX 25 O 4 [Vi Ln,Vi 0,vN,vE] :: oB vE fins :: ⟨vl,23,1,us.length,us⟩ :: (dk vN vs rows ++ ja us sets))) 4001
  ⟨0,vl,.slice none 0 0,.slice none 0 0,[u0],[],[set0],[],[],rfl,rfl,rfl,rfl,rfl,by simp,hI0,h0⟩ ?_)
 clear hS h0 hI0 hl0 hr0;rintro γ E w11 a ⟨i,vl,vN,vE,us,vs,sets,rows,fins,rfl,rfl,hi,hus,hvs,hs4,hI,h⟩ hS;have hile:=hI.le;obtain ⟨gl,cl,rfl,-⟩:=h.r.any (i:=2) (v:=vl) (e:=23) (s:=1) (n:=us.length) (xs:=us) rfl;refine wp_seq (wp_seq (ai [(1,.slice ah hid.length ch),(2,Vp M),(4,Vp R),(6,Vp X),(7,Vi nx.length),(9,.slice gl us.length cl),(10,Vp O),(11,Vi i),(53,.bool (decide (i < sets.length)))] (· = w11) af hS ?_ (fun a w12 hS hw=>?_)))
 ·rw [← hus]
  repeat refine zX rfl ?_
  refine zC rfl (co _ _) ?_
  repeat refine zX rfl ?_
  exact aj ⟨⟨rfl,rfl,rfl,rfl,rfl,rfl,rfl,rfl,rfl,trivial⟩,rfl⟩
 subst hw;refine cond hS rfl (fun hT=>wp_skip ?_) (fun hF3=>?_)
 case refine_2=>
  refine wp_exit ?_
  repeat first|refine bf ?_|refine ba ?_|refine az rfl ?_
  have hie : rows.length = sets.length:=by have:=of_decide_eq_false hF3; omega
  have hS2:=hI.done hie;have hpos:=hI.pos
  have hI64 : ∀ l ∈ rows,∀ x ∈ l,I64 x:=fun l hl x hx=>by
   obtain ⟨a,ha,rfl⟩:=List.mem_iff_getElem.1 hl;obtain ⟨c,hc,rfl⟩:=List.mem_iff_getElem.1 hx
   have:=(hI.row a ha).2 c hc
   unfold I64
   rcases this with ⟨_,e⟩ | ⟨_,e,_⟩ | ⟨_,k,e,h3,_⟩ <;> omega
  have hma:=aap (L:=(Ln : Int)) (s:=0) (h.tail.erase 1) hvs hI64 hm.L (by unfold I64; omega)
  have hfew:=hS2.few (s:=sx) hpos (fun j=>by
   exact hI.first j) (by omega)
  have hacc:=fun u (hu : Word Ln u)=>hS2.acc0 (s:=sx) hpos hI.first hu;have oR':=oR.keep h.b oR.lt;refine wp_seq (bg (α:=(Int × Value × Value) × List (List Int) × List Bool) (fun _=>[(4,Vp R),(5,Vi 0)]) (fun x w'=>RowKit.Below w.heap.size w w' ∧ OwnB w' R 25 [Vi Ln,Vi x.1.1,x.1.2.1,x.1.2.2] ∧ Ma w' Ln x.1.1 x.2.1 x.2.2 x.1.2.1 x.1.2.2 ∧ Canon Ln x.1.1 x.2.1 x.2.2 ∧ dq Ln x.2.1 x.2.2 x.1.1 rows fins 0) af hS ?_ (fun x a w13 hS hw=>?_))
  ·refine zA ([Vi Ln,Vi 0,vN,vE]) rfl rfl (⟨h.r.xcell (i:=0) rfl (j:=0) rfl,h.r.xcell (i:=0) rfl (j:=1) rfl,h.r.xcell (i:=0) rfl (j:=2) rfl,h.r.xcell (i:=0) rfl (j:=3) rfl,trivial⟩) ?_;refine zF rfl (vt) (uu Ln 0 vN vE rows fins _ hma (hI.shape hie) (by omega) (by omega)) ?_;rintro e w13 ⟨s',vn',ve',n',f',rfl,hO,k1,hcan2,hal2,hle2⟩;refine ⟨_,rfl,?_⟩;have hs' : I64 s':=by have:=hcan2.shape.s1; have:=hcan2.shape.s2; unfold I64; omega
   have oR2:=oR'.keep k1 oR'.lt;have hg:=bz R [Vi Ln,Vi s',vn',ve'] 0 w13;obtain ⟨an2,cn2,hvn⟩:=akc hO;obtain ⟨ae2,ce2,hve⟩:=akd hO;subst hvn hve;refine cj rfl rfl (anI rfl (anI rfl (anI (b0 oR2) ?_)))
   repeat refine zX rfl ?_
   exact aj ⟨((s',.slice an2 n'.length cn2,.slice ae2 f'.length ce2),n',f'),⟨rfl,rfl,trivial⟩,a6 (ak (ak hB h.b) k1) hg (fun k hk=>by cases hk; exact hRw),oR2.sets rfl,agc hO hm.L hs' oR2 _,hcan2,hal2⟩
  obtain ⟨⟨s',vn',ve'⟩,n',f'⟩:=x;obtain ⟨hB3,oR3,hma3,hcan3,hal3⟩:=hw;dsimp only at oR3 hma3 hcan3 hal3;refine wp_ret ?_
  repeat first|refine a8 ?_|refine am ?_
  refine p9 af hS rfl rfl rfl rfl rfl (o:=0) (vs:=[Vi Ln,Vi s',vn',ve']) ⟨oR3.cell (i:=0) rfl,oR3.cell (i:=1) rfl,oR3.cell (i:=2) rfl,oR3.cell (i:=3) rfl,trivial⟩ rfl ⟨Ln,s',0,_,_,n',f',rfl,hma3,hB3,.inr ⟨hv0,hhl,sx,nx,fx,hcan,by rw [hLN]; exact hal,.inr ⟨by rw [hLN]; exact hfew,rfl,rfl,hcan3,fun u hu=>?_⟩⟩⟩;rw [hLN] at hu ⊢;rw [hal3 u hu];exact hacc u hu
 have hlt : i < sets.length:=of_decide_eq_true hT;have hsl : sets[i].length = nx.length:=hI.len _ (List.getElem_mem hlt);refine wp_seq (wp_block ?_);refine wp_seq (bg (α:=Nat) (fun g=>[(1,.slice ah hid.length ch),(2,Vp M),(4,Vp R),(6,Vp X),(7,Vi nx.length),(9,.slice gl us.length cl),(10,Vp O),(11,Vi i),(12,Vs g Ln Ln)]) (fun g w'=>Hold w5.heap.size w5 w' (oI (Vs g Ln Ln) (List.replicate Ln 0) :: oX 25 O 4 [Vi Ln,Vi 0,vN,vE] :: oB vE fins :: ⟨.slice gl us.length cl,23,1,us.length,us⟩ :: (dk vN vs rows ++ ja us sets))) af hS ?_ (fun g a w13 hS h=>?_))
 ·have h2:=h.makeI (n:=Ln) (by omega)
  repeat refine zX rfl ?_
  refine zL rfl ((oM.keep h.b oM.lt).cell (i:=0) rfl) ?_;refine zM (Ln) rfl rfl rfl rfl rfl ((by show 8 * _ ≤ _; omega)) ((by omega)) ?_
  repeat refine zX rfl ?_
  exact aj ⟨_,⟨rfl,rfl,rfl,rfl,rfl,rfl,rfl,rfl,rfl,trivial⟩,h2⟩
 refine wp_seq (ai [(1,.slice ah hid.length ch),(2,Vp M),(4,Vp R),(6,Vp X),(7,Vi nx.length),(9,.slice gl us.length cl),(10,Vp O),(11,Vi i),(12,Vs g Ln Ln),(13,.bool false)] (· = w13) af hS ?_ (fun a w14 hS hw=>?_))
 ·repeat refine zX rfl ?_
  exact aj ⟨⟨rfl,rfl,rfl,rfl,rfl,rfl,rfl,rfl,rfl,rfl,trivial⟩,rfl⟩
 subst hw;refine wp_seq (cut (F:=fun a' w'=>w' = w14 ∧ ∃ en : Bool,St Tryz.f6.ntmps a' [(1,.slice ah hid.length ch),(2,Vp M),(4,Vp R),(6,Vp X),(7,Vi nx.length),(9,.slice gl us.length cl),(10,Vp O),(11,Vi i),(12,Vs g Ln Ln),(13,.bool en)] ∧ (en = true ↔ ∃ j,setP sets i j ∧ fx.getD j false = true)) ?_ ?_)
 ·refine wp_seq (ai [(1,.slice ah hid.length ch),(2,Vp M),(4,Vp R),(6,Vp X),(7,Vi nx.length),(9,.slice gl us.length cl),(10,Vp O),(11,Vi i),(12,Vs g Ln Ln),(13,.bool false),(14,Vi (0 : Nat))] (· = w14) af hS ?_ (fun a w15 hS hw=>?_))
  ·repeat refine zX rfl ?_
   exact aj ⟨⟨rfl,rfl,rfl,rfl,rfl,rfl,rfl,rfl,rfl,rfl,rfl,trivial⟩,rfl⟩
  subst hw;refine wp_block (cz hS (fun γ E wr=>∃ (k : Nat) (en : Bool),k ≤ nx.length ∧ γ = nx.length - k ∧ E = [(1,.slice ah hid.length ch),(2,Vp M),(4,Vp R),(6,Vp X),(7,Vi nx.length),(9,.slice gl us.length cl),(10,Vp O),(11,Vi i),(12,Vs g Ln Ln),(13,.bool en),(14,Vi k)] ∧ wr = w15 ∧ (en = true ↔ ∃ j,j < k ∧ setP sets i j ∧ fx.getD j false = true)) nx.length ⟨0,false,Nat.zero_le _,rfl,rfl,rfl,by simp⟩ ?_);clear hS;rintro γ E wr a ⟨k,en,hk,rfl,rfl,rfl,hen⟩ hS;refine wp_seq (wp_seq (ai [(1,.slice ah hid.length ch),(2,Vp M),(4,Vp R),(6,Vp X),(7,Vi nx.length),(9,.slice gl us.length cl),(10,Vp O),(11,Vi i),(12,Vs g Ln Ln),(13,.bool en),(14,Vi k),(61,.bool (decide (k < nx.length)))] (· = wr) af hS ?_ (fun a w16 hS hw=>?_)))
  ·repeat refine zX rfl ?_
   refine zC rfl (co _ _) ?_;exact aj ⟨⟨rfl,rfl,rfl,rfl,rfl,rfl,rfl,rfl,rfl,rfl,rfl,rfl,trivial⟩,rfl⟩
  subst hw;refine cond hS rfl (fun hT=>wp_skip ?_) (fun hF4=>?_)
  case refine_2=>
   refine wp_exit ?_
   repeat first|refine bf ?_|refine ba ?_|refine az rfl ?_
   have hkn : k = nx.length:=by have:=of_decide_eq_false hF4; omega
   refine ⟨rfl,en,hS.sub ⟨rfl,rfl,rfl,rfl,rfl,rfl,rfl,rfl,rfl,rfl,trivial⟩,hen.trans ⟨fun ⟨j,_,h2,h3⟩=>⟨j,h2,h3⟩,fun ⟨j,h2,h3⟩=>⟨j,?_,h2,h3⟩⟩⟩;rw [hkn,← hsl];exact z8 hlt h2
  have hkn : k < nx.length:=of_decide_eq_true hT;refine wp_seq (wp_block ?_);refine ai [(1,.slice ah hid.length ch),(2,Vp M),(4,Vp R),(6,Vp X),(7,Vi nx.length),(9,.slice gl us.length cl),(10,Vp O),(11,Vi i),(12,Vs g Ln Ln),(13,.bool (en || (sets[i][k]'(by omega) && fx[k]'(by rw [hshx.fin]; exact hkn)))),(14,Vi k)] (· = w16) af hS ?_ (fun a w17 hS hw=>?_)
  ·cases en
   ·have hss:=(zz h (i:=3) rfl hus (fun x hx=>List.mem_cons_of_mem _ (List.mem_cons_of_mem _ (List.mem_cons_of_mem _ (List.mem_cons_of_mem _ (List.mem_append_right _ hx)))))).1;obtain ⟨b1,o1,b2,o2,c2,rfl,hu1,hu2⟩:=abs hss hlt (k:=k) (by omega);obtain ⟨be,oe,ce2,hve2,hu3⟩:=nw (hX.keep h.b).m.e (k:=k) (by rw [hshx.fin]; exact hkn);subst hve2;have hXE:=(hX.keep h.b).o.cell (i:=3) rfl
    cases e1 : sets[i][k]'(by omega)
    ·rw [e1] at hu2
     repeat refine zX rfl ?_
     refine zI rfl (rfl) ((by omega : i < us.length)) ?_;refine zL rfl (hu1) ?_
     repeat refine zX rfl ?_
     refine zI rfl (rfl) ((by omega : k < sets[i].length)) ?_;refine zL rfl (hu2) ?_
     repeat refine zX rfl ?_
     exact aj ⟨⟨rfl,rfl,rfl,rfl,rfl,rfl,rfl,rfl,rfl,rfl,rfl,trivial⟩,rfl⟩
    ·rw [e1] at hu2
     repeat refine zX rfl ?_
     refine zI rfl (rfl) ((by omega : i < us.length)) ?_;refine zL rfl (hu1) ?_
     repeat refine zX rfl ?_
     refine zI rfl (rfl) ((by omega : k < sets[i].length)) ?_;refine zL rfl (hu2) ?_
     repeat refine zX rfl ?_
     refine zL rfl (hXE) ?_
     repeat refine zX rfl ?_
     refine zI rfl (rfl) ((by rw [hshx.fin]; exact hkn : k < fx.length)) ?_;refine zL rfl (hu3) ?_
     repeat refine zX rfl ?_
     exact aj ⟨⟨rfl,rfl,rfl,rfl,rfl,rfl,rfl,rfl,rfl,rfl,rfl,trivial⟩,rfl⟩
   ·repeat refine zX rfl ?_
    exact aj ⟨⟨rfl,rfl,rfl,rfl,rfl,rfl,rfl,rfl,rfl,rfl,rfl,trivial⟩,rfl⟩
  subst hw;refine ay ?_;refine b4 ?_;refine ai [(1,.slice ah hid.length ch),(2,Vp M),(4,Vp R),(6,Vp X),(7,Vi nx.length),(9,.slice gl us.length cl),(10,Vp O),(11,Vi i),(12,Vs g Ln Ln),(13,.bool (en || (sets[i][k]'(by omega) && fx[k]'(by rw [hshx.fin]; exact hkn)))),(14,Vi (k + 1 : Nat))] (· = w17) af hS ?_ (fun a w18 hS hw=>?_)
  ·repeat refine zX rfl ?_
   refine zN rfl (ck (by omega)) ?_
   repeat refine zX rfl ?_
   exact aj ⟨⟨rfl,rfl,rfl,rfl,rfl,rfl,rfl,rfl,rfl,rfl,rfl,trivial⟩,rfl⟩
  subst hw;refine ⟨nx.length - (k + 1),_,by omega,⟨k + 1,_,hkn,rfl,rfl,rfl,?_⟩,hS⟩;rw [Bool.or_eq_true,hen,Bool.and_eq_true];have e1 : setP sets i k ↔ sets[i][k]'(by omega) = true:=aaa hlt (by omega);have e2 : fx.getD k false = fx[k]'(by rw [hshx.fin]; exact hkn):=by rw [List.getD_eq_getElem?_getD,List.getElem?_eq_getElem (by rw [hshx.fin]; exact hkn),Option.getD_some]
  rw [← e1,← e2]
  constructor
  ·rintro (⟨j,h1,h2⟩ | h1)
   ·exact ⟨j,by omega,h2⟩
   ·exact ⟨k,by omega,h1⟩
  ·rintro ⟨j,h1,h2⟩
   rcases Nat.lt_or_ge j k with h3 | h3
   ·exact .inl ⟨j,h3,h2⟩
   ·obtain rfl : j = k:=by omega
    exact .inr h2
 rintro a w15 ⟨rfl,en,hS,hen⟩;refine wp_seq (cut (F:=fun a' wr=>∃ (vl : Value) (us : List Value) (sets : List (List Bool)) (row : List Int),St Tryz.f6.ntmps a' [(1,.slice ah hid.length ch),(2,Vp M),(4,Vp R),(6,Vp X),(7,Vi nx.length),(9,vl),(10,Vp O),(11,Vi i),(12,Vs g Ln Ln),(13,.bool en)] ∧ sets.length ≤ 4000 + Ln ∧ (∀ c,c < Ln → t7 Ln nx hid sets i c (row.getD c 0)) ∧ us.length = sets.length ∧ HideI Ln nx fx hid sx sets rows fins ∧ row.length = Ln ∧ i < sets.length ∧ (en = true ↔ ∃ j,setP sets i j ∧ fx.getD j false = true) ∧ Hold w5.heap.size w5 wr (oI (Vs g Ln Ln) row :: oX 25 O 4 [Vi Ln,Vi 0,vN,vE] :: oB vE fins :: ⟨vl,23,1,us.length,us⟩ :: (dk vN vs rows ++ ja us sets))) ?_ ?_)
 ·refine wp_seq (ai [(1,.slice ah hid.length ch),(2,Vp M),(4,Vp R),(6,Vp X),(7,Vi nx.length),(9,.slice gl us.length cl),(10,Vp O),(11,Vi i),(12,Vs g Ln Ln),(13,.bool en),(15,Vi (0 : Nat))] (· = w15) af hS ?_ (fun a w16 hS hw=>?_))
  ·repeat refine zX rfl ?_
   exact aj ⟨⟨rfl,rfl,rfl,rfl,rfl,rfl,rfl,rfl,rfl,rfl,rfl,trivial⟩,rfl⟩
  subst hw
  refine wp_block (cz hS (fun γ E wr=>∃ (k : Nat) (vl : Value) (us : List Value) (sets : List (List Bool)) (row : List Int),k ≤ Ln ∧ γ = Ln - k ∧ E = [(1,.slice ah hid.length ch),(2,Vp M),(4,Vp R),(6,Vp X),(7,Vi nx.length),(9,vl),(10,Vp O),(11,Vi i),(12,Vs g Ln Ln),(13,.bool en),(15,Vi k)] ∧ sets.length ≤ 4000 + k ∧ (∀ c,c < k → t7 Ln nx hid sets i c (row.getD c 0)) ∧ us.length = sets.length ∧ HideI Ln nx fx hid sx sets rows fins ∧ row.length = Ln ∧ i < sets.length ∧ (en = true ↔ ∃ j,setP sets i j ∧ fx.getD j false = true) ∧ Hold w5.heap.size w5 wr (oI (Vs g Ln Ln) row :: oX 25 O 4 [Vi Ln,Vi 0,vN,vE] :: oB vE fins :: ⟨vl,23,1,us.length,us⟩ :: (dk vN vs rows ++ ja us sets))) Ln
   ⟨0,.slice gl us.length cl,us,sets,List.replicate Ln 0,Nat.zero_le _,rfl,rfl,by omega,fun c hc=>by omega,hus,hI,by simp,hlt,hen,h⟩ ?_)
  clear hS h hI hus hen hsl hlt hs4 hile hi;rintro γ E wr a ⟨k,vl,us,sets,row,hk,rfl,rfl,hs4,hrow,hus,hI,hrl,hlt,hen,h⟩ hS;obtain ⟨gl,cl,rfl,-⟩:=h.r.any (i:=3) (v:=vl) (e:=23) (s:=1) (n:=us.length) (xs:=us) rfl;have hsl : sets[i].length = nx.length:=hI.len _ (List.getElem_mem hlt);refine wp_seq (wp_seq (ai [(1,.slice ah hid.length ch),(2,Vp M),(4,Vp R),(6,Vp X),(7,Vi nx.length),(9,.slice gl us.length cl),(10,Vp O),(11,Vi i),(12,Vs g Ln Ln),(13,.bool en),(15,Vi k),(84,.bool (decide (k < Ln)))] (· = wr) af hS ?_ (fun a w16 hS hw=>?_)))
  ·repeat refine zX rfl ?_
   refine zL rfl ((oM.keep h.b oM.lt).cell (i:=0) rfl) ?_;refine zC rfl (co _ _) ?_;exact aj ⟨⟨rfl,rfl,rfl,rfl,rfl,rfl,rfl,rfl,rfl,rfl,rfl,rfl,trivial⟩,rfl⟩
  subst hw;refine cond hS rfl (fun hT=>wp_skip ?_) (fun hF4=>?_)
  case refine_2=>
   refine wp_exit ?_
   repeat first|refine bf ?_|refine ba ?_|refine az rfl ?_
   have hkn : k = Ln:=by have:=of_decide_eq_false hF4; omega
   exact ⟨_,us,sets,row,hS.sub ⟨rfl,rfl,rfl,rfl,rfl,rfl,rfl,rfl,rfl,rfl,trivial⟩,by omega,fun c hc=>hrow c (by omega),hus,hI,hrl,hlt,hen,h⟩
  have hkL : k < Ln:=of_decide_eq_true hT;have hkh : k < hid.length:=by omega
  have hhk : hidB hid k = hid[k]:=by simp [hidB,hkh]
  refine wp_seq (wp_block ?_);refine wp_seq (ai [(1,.slice ah hid.length ch),(2,Vp M),(4,Vp R),(6,Vp X),(7,Vi nx.length),(9,.slice gl us.length cl),(10,Vp O),(11,Vi i),(12,Vs g Ln Ln),(13,.bool en),(15,Vi k)] (fun w'=>Hold w5.heap.size w5 w' (oI (Vs g Ln Ln) (row.set k (-1)) :: oX 25 O 4 [Vi Ln,Vi 0,vN,vE] :: oB vE fins :: ⟨.slice gl us.length cl,23,1,us.length,us⟩ :: (dk vN vs rows ++ ja us sets))) af hS ?_ (fun a w17 hS h=>?_))
  ·have h2:=h.storeI (i:=0) rfl k (-1)
   repeat refine zX rfl ?_
   refine zI rfl (rfl) (hkL) ?_;refine zS rfl rfl (h.r.cellI (i:=0) rfl (j:=k) (by omega)) (h.r.free (i:=0) rfl _) ?_;exact aj ⟨⟨rfl,rfl,rfl,rfl,rfl,rfl,rfl,rfl,rfl,rfl,rfl,trivial⟩,h2⟩
  refine wp_seq (bg (α:=Nat) (fun q=>[(1,.slice ah hid.length ch),(2,Vp M),(4,Vp R),(6,Vp X),(7,Vi nx.length),(9,.slice gl us.length cl),(10,Vp O),(11,Vi i),(12,Vs g Ln Ln),(13,.bool en),(15,Vi k),(16,Vs q nx.length nx.length)]) (fun q w'=>Hold w5.heap.size w5 w' (oB (Vs q nx.length nx.length) (List.replicate nx.length false) :: oI (Vs g Ln Ln) (row.set k (-1)) :: oX 25 O 4 [Vi Ln,Vi 0,vN,vE] :: oB vE fins :: ⟨.slice gl us.length cl,23,1,us.length,us⟩ :: (dk vN vs rows ++ ja us sets))) af hS ?_ (fun q a w18 hS h=>?_))
  ·have h2:=h.makeBr (n:=nx.length) (by omega)
   repeat refine zX rfl ?_
   refine zM (nx.length) rfl rfl rfl rfl rfl ((by show 1 * _ ≤ _; omega)) ((by omega)) ?_
   repeat refine zX rfl ?_
   exact aj ⟨_,⟨rfl,rfl,rfl,rfl,rfl,rfl,rfl,rfl,rfl,rfl,rfl,rfl,trivial⟩,h2⟩
  refine wp_seq (ai [(1,.slice ah hid.length ch),(2,Vp M),(4,Vp R),(6,Vp X),(7,Vi nx.length),(9,.slice gl us.length cl),(10,Vp O),(11,Vi i),(12,Vs g Ln Ln),(13,.bool en),(15,Vi k),(16,Vs q nx.length nx.length),(17,.bool false)] (· = w18) af hS ?_ (fun a w19 hS hw=>?_))
  ·repeat refine zX rfl ?_
   exact aj ⟨⟨rfl,rfl,rfl,rfl,rfl,rfl,rfl,rfl,rfl,rfl,rfl,rfl,rfl,trivial⟩,rfl⟩
  subst hw;refine wp_seq (cut (F:=fun a' w'=>∃ (so : Bool) (set : List Bool),St Tryz.f6.ntmps a' [(1,.slice ah hid.length ch),(2,Vp M),(4,Vp R),(6,Vp X),(7,Vi nx.length),(9,.slice gl us.length cl),(10,Vp O),(11,Vi i),(12,Vs g Ln Ln),(13,.bool en),(15,Vi k),(16,Vs q nx.length nx.length),(17,.bool so)] ∧ set.length = nx.length ∧ (∀ j,set.getD j false = true ↔ hidB hid k = false ∧ mc nx (setP sets i) k j) ∧ (so = true ↔ ∃ j,set.getD j false = true) ∧ Hold w5.heap.size w5 w' (oB (Vs q nx.length nx.length) set :: oI (Vs g Ln Ln) (row.set k (-1)) :: oX 25 O 4 [Vi Ln,Vi 0,vN,vE] :: oB vE fins :: ⟨.slice gl us.length cl,23,1,us.length,us⟩ :: (dk vN vs rows ++ ja us sets))) ?_ ?_)
  ·refine wp_seq (ai [(1,.slice ah hid.length ch),(2,Vp M),(4,Vp R),(6,Vp X),(7,Vi nx.length),(9,.slice gl us.length cl),(10,Vp O),(11,Vi i),(12,Vs g Ln Ln),(13,.bool en),(15,Vi k),(16,Vs q nx.length nx.length),(17,.bool false),(18,Vi (0 : Nat))] (· = w19) af hS ?_ (fun a w20 hS hw=>?_))
   ·repeat refine zX rfl ?_
    exact aj ⟨⟨rfl,rfl,rfl,rfl,rfl,rfl,rfl,rfl,rfl,rfl,rfl,rfl,rfl,rfl,trivial⟩,rfl⟩
   subst hw
   refine wp_block (cz hS (fun γ E wr=>∃ (t : Nat) (so : Bool) (set : List Bool),t ≤ nx.length ∧ γ = nx.length - t ∧ E = [(1,.slice ah hid.length ch),(2,Vp M),(4,Vp R),(6,Vp X),(7,Vi nx.length),(9,.slice gl us.length cl),(10,Vp O),(11,Vi i),(12,Vs g Ln Ln),(13,.bool en),(15,Vi k),(16,Vs q nx.length nx.length),(17,.bool so),(18,Vi t)] ∧ set.length = nx.length ∧ (∀ j,set.getD j false = true ↔ ∃ y,y < t ∧ setP sets i y ∧ dd nx y k = (j : Int)) ∧ (so = true ↔ ∃ j,set.getD j false = true) ∧ (hidB hid k = true → t = 0) ∧ Hold w5.heap.size w5 wr (oB (Vs q nx.length nx.length) set :: oI (Vs g Ln Ln) (row.set k (-1)) :: oX 25 O 4 [Vi Ln,Vi 0,vN,vE] :: oB vE fins :: ⟨.slice gl us.length cl,23,1,us.length,us⟩ :: (dk vN vs rows ++ ja us sets))) nx.length
    ⟨0,false,_,Nat.zero_le _,rfl,rfl,by simp,fun j=>?_,?_,fun _=>rfl,h⟩ ?_)
   ·have : (List.replicate nx.length false).getD j false = false:=by rw [List.getD_eq_getElem?_getD,List.getElem?_replicate]; split <;> rfl
    rw [this];exact ⟨fun h=>(by cases h),fun ⟨y,hy,_⟩=>by omega⟩
   ·refine ⟨fun h=>(by cases h),fun ⟨j,hj⟩=>?_⟩;have : (List.replicate nx.length false).getD j false = false:=by rw [List.getD_eq_getElem?_getD,List.getElem?_replicate]; split <;> rfl
    rw [this] at hj; cases hj
   clear hS h;rintro γ E wr a ⟨t,so,set,ht,rfl,rfl,hsn,hset,hso,hh0,h⟩ hS;obtain ⟨b101,hb101⟩ : ∃ b,(decide (t < nx.length) && !hid[k]) = b:=⟨_,rfl⟩;refine wp_seq (wp_seq (ai [(1,.slice ah hid.length ch),(2,Vp M),(4,Vp R),(6,Vp X),(7,Vi nx.length),(9,.slice gl us.length cl),(10,Vp O),(11,Vi i),(12,Vs g Ln Ln),(13,.bool en),(15,Vi k),(16,Vs q nx.length nx.length),(17,.bool so),(18,Vi t),(101,.bool b101)] (· = wr) af hS ?_ (fun a w21 hS hw=>?_)))
   ·obtain ⟨bh,oh,rfl,hch⟩:=hcell h.b hkh
    cases e1 : decide (t < nx.length)
    ·rw [e1,Bool.false_and] at hb101; subst hb101
     repeat refine zX rfl ?_
     refine zC rfl ((co _ _).trans e1) ?_
     repeat refine zX rfl ?_
     exact aj ⟨⟨rfl,rfl,rfl,rfl,rfl,rfl,rfl,rfl,rfl,rfl,rfl,rfl,rfl,rfl,rfl,trivial⟩,rfl⟩
    ·rw [e1,Bool.true_and] at hb101; subst hb101
     repeat refine zX rfl ?_
     refine zC rfl ((co _ _).trans e1) ?_
     repeat refine zX rfl ?_
     refine zI rfl (rfl) (hkh) ?_;refine zL rfl (hch) ?_
     repeat refine zX rfl ?_
     exact aj ⟨⟨rfl,rfl,rfl,rfl,rfl,rfl,rfl,rfl,rfl,rfl,rfl,rfl,rfl,rfl,rfl,trivial⟩,rfl⟩
   subst hw;refine cond hS rfl (fun hT=>wp_skip ?_) (fun hF5=>?_)
   case refine_2=>
    refine wp_exit ?_
    repeat first|refine bf ?_|refine ba ?_|refine az rfl ?_
    refine ⟨so,set,hS.sub ⟨rfl,rfl,rfl,rfl,rfl,rfl,rfl,rfl,rfl,rfl,rfl,rfl,rfl,trivial⟩,hsn,fun j=>?_,hso,h⟩;rw [hset];rw [hF5] at hb101
    constructor
    ·rintro ⟨y,hy,h1,h2⟩;refine ⟨?_,y,h1,h2⟩
     cases e : hidB hid k with
     | false=>rfl
     | true=>have:=hh0 e; omega
    ·rintro ⟨h0,y,h1,h2⟩;rw [← hhk,h0,Bool.not_false,Bool.and_true] at hb101
     have:=of_decide_eq_false hb101
     have:=z8 hlt h1
     exact ⟨y,by omega,h1,h2⟩
   rw [hT,Bool.and_eq_true] at hb101;have htn : t < nx.length:=of_decide_eq_true hb101.1;have hhf : hidB hid k = false:=by rw [hhk]; simpa using hb101.2
   have hkr : k < nx[t].length:=by have:=(hshx.rows t htn).1; omega
   obtain ⟨x,hx⟩ : ∃ x,nx[t][k] = x:=⟨_,rfl⟩;have hxr:=(hshx.rows t htn).2 k hkr;rw [hx] at hxr;have hst : dd nx t k = x:=by rw [i9 htn hkr,hx]
   have htl : t < sets[i].length:=by omega
   refine wp_seq (wp_block ?_);obtain ⟨b121,hb121⟩ : ∃ b,(sets[i][t] && decide (0 ≤ x)) = b:=⟨_,rfl⟩;refine wp_seq (ai [(1,.slice ah hid.length ch),(2,Vp M),(4,Vp R),(6,Vp X),(7,Vi nx.length),(9,.slice gl us.length cl),(10,Vp O),(11,Vi i),(12,Vs g Ln Ln),(13,.bool en),(15,Vi k),(16,Vs q nx.length nx.length),(17,.bool so),(18,Vi t),(121,.bool b121)] (· = w21) af hS ?_ (fun a w22 hS hw=>?_))
   ·have hss:=(zz h (i:=4) rfl hus (fun x hx=>List.mem_cons_of_mem _ (List.mem_cons_of_mem _ (List.mem_cons_of_mem _ (List.mem_cons_of_mem _ (List.mem_cons_of_mem _ (List.mem_append_right _ hx))))))).1;obtain ⟨b1,o1,b2,o2,c2,rfl,hu1,hu2⟩:=abs hss hlt htl;obtain ⟨bn,on,cn2,hvn,ar,cr,hc1,hc2⟩:=(hX.keep h.b).m.cell htn;obtain ⟨br,orr,rfl,hc3⟩:=hc2 k hkr;rw [hx] at hc3;have hXN:=(hX.keep h.b).o.cell (i:=2) rfl;subst hvn
    cases e1 : sets[i][t]
    ·rw [e1,Bool.false_and] at hb121; subst hb121;rw [e1] at hu2
     repeat refine zX rfl ?_
     refine zI rfl (rfl) ((by omega : i < us.length)) ?_;refine zL rfl (hu1) ?_
     repeat refine zX rfl ?_
     refine zI rfl (rfl) (htl) ?_;refine zL rfl (hu2) ?_
     repeat refine zX rfl ?_
     exact aj ⟨⟨rfl,rfl,rfl,rfl,rfl,rfl,rfl,rfl,rfl,rfl,rfl,rfl,rfl,rfl,rfl,trivial⟩,rfl⟩
    ·rw [e1,Bool.true_and] at hb121; subst hb121;rw [e1] at hu2
     repeat refine zX rfl ?_
     refine zI rfl (rfl) ((by omega : i < us.length)) ?_;refine zL rfl (hu1) ?_
     repeat refine zX rfl ?_
     refine zI rfl (rfl) (htl) ?_;refine zL rfl (hu2) ?_
     repeat refine zX rfl ?_
     refine zL rfl (hXN) ?_
     repeat refine zX rfl ?_
     refine zI rfl (rfl) (htn) ?_;refine zL rfl (hc1) ?_
     repeat refine zX rfl ?_
     refine zI rfl (rfl) (hkr) ?_;refine zL rfl (hc3) ?_;refine zC rfl (rfl) ?_
     repeat refine zX rfl ?_
     exact aj ⟨⟨rfl,rfl,rfl,rfl,rfl,rfl,rfl,rfl,rfl,rfl,rfl,rfl,rfl,rfl,rfl,trivial⟩,rfl⟩
   subst hw
   have hkey : ∀ j,(∃ y,y < t + 1 ∧ setP sets i y ∧ dd nx y k = (j : Int)) ↔ (∃ y,y < t ∧ setP sets i y ∧ dd nx y k = (j : Int)) ∨ (setP sets i t ∧ x = (j : Int)):=fun j=>by
    constructor
    ·rintro ⟨y,h1,h2,h3⟩
     rcases Nat.lt_or_ge y t with h4 | h4
     ·exact .inl ⟨y,h4,h2,h3⟩
     ·obtain rfl : y = t:=by omega
      exact .inr ⟨h2,by rw [← hst]; exact h3⟩
    ·rintro (⟨y,h1,h2⟩ | ⟨h1,h2⟩)
     ·exact ⟨y,by omega,h2⟩
     ·exact ⟨t,by omega,h1,by rw [hst]; exact h2⟩
   refine cut (F:=fun a' w'=>∃ (so : Bool) (set : List Bool),St Tryz.f6.ntmps a' [(1,.slice ah hid.length ch),(2,Vp M),(4,Vp R),(6,Vp X),(7,Vi nx.length),(9,.slice gl us.length cl),(10,Vp O),(11,Vi i),(12,Vs g Ln Ln),(13,.bool en),(15,Vi k),(16,Vs q nx.length nx.length),(17,.bool so),(18,Vi t)] ∧ set.length = nx.length ∧ (∀ j,set.getD j false = true ↔ ∃ y,y < t + 1 ∧ setP sets i y ∧ dd nx y k = (j : Int)) ∧ (so = true ↔ ∃ j,set.getD j false = true) ∧ Hold w5.heap.size w5 w' (oB (Vs q nx.length nx.length) set :: oI (Vs g Ln Ln) (row.set k (-1)) :: oX 25 O 4 [Vi Ln,Vi 0,vN,vE] :: oB vE fins :: ⟨.slice gl us.length cl,23,1,us.length,us⟩ :: (dk vN vs rows ++ ja us sets))) ?_ ?_
   ·refine cond hS rfl (fun hT6=>?_) (fun hF6=>wp_skip ?_)
    ·rw [hT6,Bool.and_eq_true] at hb121;obtain ⟨xn,rfl⟩:=Int.eq_ofNat_of_zero_le (of_decide_eq_true hb121.2);have hxn : xn < set.length:=by omega
     have hpt : setP sets i t:=(aaa hlt htl).2 hb121.1;refine wp_seq (ai [(1,.slice ah hid.length ch),(2,Vp M),(4,Vp R),(6,Vp X),(7,Vi nx.length),(9,.slice gl us.length cl),(10,Vp O),(11,Vi i),(12,Vs g Ln Ln),(13,.bool en),(15,Vi k),(16,Vs q nx.length nx.length),(17,.bool so),(18,Vi t)] (fun w'=>Hold w5.heap.size w5 w' (oB (Vs q nx.length nx.length) (set.set xn true) :: oI (Vs g Ln Ln) (row.set k (-1)) :: oX 25 O 4 [Vi Ln,Vi 0,vN,vE] :: oB vE fins :: ⟨.slice gl us.length cl,23,1,us.length,us⟩ :: (dk vN vs rows ++ ja us sets))) af hS ?_ (fun a w23 hS h=>?_))
     ·have h2:=h.storeB (i:=0) rfl xn true;obtain ⟨bn,on,cn2,hvn,ar,cr,hc1,hc2⟩:=(hX.keep h.b).m.cell htn;obtain ⟨br,orr,rfl,hc3⟩:=hc2 k hkr;rw [hx] at hc3;have hXN:=(hX.keep h.b).o.cell (i:=2) rfl;subst hvn
      repeat refine zX rfl ?_
      refine zL rfl (hXN) ?_
      repeat refine zX rfl ?_
      refine zI rfl (rfl) (htn) ?_;refine zL rfl (hc1) ?_
      repeat refine zX rfl ?_
      refine zI rfl (rfl) (hkr) ?_;refine zL rfl (hc3) ?_;refine zI rfl (rfl) ((by omega : xn < nx.length)) ?_;refine zS rfl rfl (h.r.cellB (i:=0) rfl hxn) (h.r.free (i:=0) rfl _) ?_;exact aj ⟨⟨rfl,rfl,rfl,rfl,rfl,rfl,rfl,rfl,rfl,rfl,rfl,rfl,rfl,rfl,trivial⟩,h2⟩
     refine ai [(1,.slice ah hid.length ch),(2,Vp M),(4,Vp R),(6,Vp X),(7,Vi nx.length),(9,.slice gl us.length cl),(10,Vp O),(11,Vi i),(12,Vs g Ln Ln),(13,.bool en),(15,Vi k),(16,Vs q nx.length nx.length),(17,.bool true),(18,Vi t)] (· = w23) af hS ?_ (fun a w24 hS hw=>?_)
     ·repeat refine zX rfl ?_
      exact aj ⟨⟨rfl,rfl,rfl,rfl,rfl,rfl,rfl,rfl,rfl,rfl,rfl,rfl,rfl,rfl,trivial⟩,rfl⟩
     subst hw;refine ⟨true,_,hS,by simp [hsn],fun j=>?_,?_,h⟩
     ·rw [g6,hkey]
      split
      ·rename_i e;exact ⟨fun _=>.inr ⟨hpt,by omega⟩,fun _=>rfl⟩
      ·rename_i e;rw [hset];refine ⟨.inl,fun h=>h.elim id fun ⟨_,h2⟩=>(e ⟨by omega,hxn⟩).elim⟩
     ·exact ⟨fun _=>⟨xn,by rw [g6,if_pos ⟨rfl,hxn⟩]⟩,fun _=>rfl⟩
    ·refine ⟨so,set,hS.sub ⟨rfl,rfl,rfl,rfl,rfl,rfl,rfl,rfl,rfl,rfl,rfl,rfl,rfl,rfl,trivial⟩,hsn,fun j=>?_,hso,h⟩;rw [hkey,hset];refine ⟨.inl,fun h=>h.elim id fun ⟨h1,h2⟩=>?_⟩;rw [hF6,(aaa hlt htl).1 h1,Bool.true_and] at hb121
     have:=of_decide_eq_false hb121
     omega
   rintro a w23 ⟨so,set,hS,hsn,hset,hso,h⟩;refine ay ?_;refine b4 ?_;refine ai [(1,.slice ah hid.length ch),(2,Vp M),(4,Vp R),(6,Vp X),(7,Vi nx.length),(9,.slice gl us.length cl),(10,Vp O),(11,Vi i),(12,Vs g Ln Ln),(13,.bool en),(15,Vi k),(16,Vs q nx.length nx.length),(17,.bool so),(18,Vi (t + 1 : Nat))] (· = w23) af hS ?_ (fun a w24 hS hw=>?_)
   ·repeat refine zX rfl ?_
    refine zN rfl (ck (by omega)) ?_
    repeat refine zX rfl ?_
    exact aj ⟨⟨rfl,rfl,rfl,rfl,rfl,rfl,rfl,rfl,rfl,rfl,rfl,rfl,rfl,rfl,trivial⟩,rfl⟩
   subst hw;exact ⟨nx.length - (t + 1),_,by omega,⟨t + 1,so,set,htn,rfl,rfl,hsn,hset,hso,(fun h0=>by rw [hhf] at h0; cases h0),h⟩,hS⟩
  clear hS h;rintro a w20 ⟨so,set,hS,hsn,hset,hso,h⟩;have hrk : (row.set k (-1)).length = Ln:=by simp [hrl]
  have hrow1 : ∀ c,c < k → t7 Ln nx hid sets i c ((row.set k (-1)).getD c 0):=fun c hc=>by
   rw [dp,if_neg (by omega)]; exact hrow c hc
  refine wp_seq (ai [(1,.slice ah hid.length ch),(2,Vp M),(4,Vp R),(6,Vp X),(7,Vi nx.length),(9,.slice gl us.length cl),(10,Vp O),(11,Vi i),(12,Vs g Ln Ln),(13,.bool en),(15,Vi k),(16,Vs q nx.length nx.length),(17,.bool so),(132,.bool so)] (· = w20) af hS ?_ (fun a w21 hS hw=>?_))
  ·repeat refine zX rfl ?_
   exact aj ⟨⟨rfl,rfl,rfl,rfl,rfl,rfl,rfl,rfl,rfl,rfl,rfl,rfl,rfl,rfl,trivial⟩,rfl⟩
  subst hw;refine cut (F:=fun a' wr=>∃ (vl : Value) (us : List Value) (sets : List (List Bool)) (row : List Int),St Tryz.f6.ntmps a' [(1,.slice ah hid.length ch),(2,Vp M),(4,Vp R),(6,Vp X),(7,Vi nx.length),(9,vl),(10,Vp O),(11,Vi i),(12,Vs g Ln Ln),(13,.bool en),(15,Vi k)] ∧ sets.length ≤ 4000 + (k + 1) ∧ (∀ c,c < k + 1 → t7 Ln nx hid sets i c (row.getD c 0)) ∧ us.length = sets.length ∧ HideI Ln nx fx hid sx sets rows fins ∧ row.length = Ln ∧ i < sets.length ∧ (en = true ↔ ∃ j,setP sets i j ∧ fx.getD j false = true) ∧ Hold w5.heap.size w5 wr (oI (Vs g Ln Ln) row :: oX 25 O 4 [Vi Ln,Vi 0,vN,vE] :: oB vE fins :: ⟨vl,23,1,us.length,us⟩ :: (dk vN vs rows ++ ja us sets))) ?_ ?_
  ·refine cond hS rfl (fun hT7=>?_) (fun hF7=>wp_skip ?_)
   case refine_2=>
    refine ⟨_,us,sets,_,hS.sub ⟨rfl,rfl,rfl,rfl,rfl,rfl,rfl,rfl,rfl,rfl,rfl,trivial⟩,by omega,fun c hc=>?_,hus,hI,hrk,hlt,hen,h.tail⟩
    rcases Nat.lt_or_ge c k with h1 | h1
    ·exact hrow1 c h1
    ·obtain rfl : c = k:=by omega
     rw [dp,if_pos ⟨rfl,by omega⟩]
     cases e : hidB hid c with
     | true=>exact .inl ⟨e,rfl⟩
     | false=>
       refine .inr (.inl ⟨e,rfl,fun j hj=>?_⟩)
       have:=hso.2 ⟨j,(hset j).2 ⟨e,hj⟩⟩
       rw [hF7] at this; cases this
   obtain ⟨j0,hj0⟩:=hso.1 hT7;obtain ⟨hhf,hstep0⟩:=(hset j0).1 hj0;refine wp_seq (bg (α:=(Nat × Nat) × List Bool) (fun x=>[(1,.slice ah hid.length ch),(2,Vp M),(4,Vp R),(6,Vp X),(7,Vi nx.length),(9,.slice gl us.length cl),(10,Vp O),(11,Vi i),(12,Vs g Ln Ln),(13,.bool en),(15,Vi k),(16,Vs x.1.1 nx.length x.1.2)]) (fun x w'=>x.2.length = nx.length ∧ (∀ j,x.2.getD j false = true ↔ HRun Ln nx hid (mc nx (setP sets i) k) [] j) ∧ Hold w5.heap.size w5 w' (oB (Vs x.1.1 nx.length x.1.2) x.2 :: oI (Vs g Ln Ln) (row.set k (-1)) :: oX 25 O 4 [Vi Ln,Vi 0,vN,vE] :: oB vE fins :: ⟨.slice gl us.length cl,23,1,us.length,us⟩ :: (dk vN vs rows ++ ja us sets))) af hS ?_ (fun x a w22 hS h8=>?_))
   ·have hsl2:=h.r.slB (i:=0) rfl;have hX':=hX.keep h.b;subst hvnx hvex;refine zA ([Vi Ln,Vi sx,.slice an nx.length cn,.slice ae fx.length ce]) rfl rfl (hX'.cells) ?_
    repeat refine zX rfl ?_
    refine zF rfl (y4) (vv Ln sx (.slice an nx.length cn) (.slice ae fx.length ce) (Vs q nx.length nx.length) (.slice ah hid.length ch) nx fx set hid _ hX'.m hshx (by omega) hsl2.1 hsl2.2 hsn (hh1.keep h.b (fun _ _ h=>h)) hhl) ?_;rintro e w22 ⟨g2,c2,out,rfl,hR2,k1,hl2,hr2⟩;refine ⟨_,rfl,?_⟩;have hH : Hold w21.heap.size w21 w22 [oB (Vs g2 nx.length c2) out]:=⟨hR2,k1,k1.size⟩;have h2:=(h.join hH).erase 1
    repeat refine zX rfl ?_
    refine aj ⟨((g2,c2),out),⟨rfl,rfl,rfl,rfl,rfl,rfl,rfl,rfl,rfl,rfl,rfl,rfl,trivial⟩,hl2,fun j=>?_,h2⟩;rw [hr2,hLN];exact ⟨fun h=>h.mono fun i hi=>((hset i).1 hi).2,fun h=>h.mono fun i hi=>(hset i).2 ⟨hhf,hi⟩⟩
   obtain ⟨⟨g2,c2⟩,out⟩:=x;obtain ⟨hol,hor,h⟩:=h8;dsimp only at hS hol hor h;refine wp_seq (bg (α:=Int) (fun r=>[(1,.slice ah hid.length ch),(2,Vp M),(4,Vp R),(6,Vp X),(7,Vi nx.length),(9,.slice gl us.length cl),(10,Vp O),(11,Vi i),(12,Vs g Ln Ln),(13,.bool en),(15,Vi k),(16,Vs g2 nx.length c2)]) (fun r w'=>((r = -1 ∧ out ∉ sets) ∨ ∃ (m : Nat) (hm : m < sets.length),r = m ∧ sets[m] = out) ∧ Hold w5.heap.size w5 w' (oB (Vs g2 nx.length c2) out :: oI (Vs g Ln Ln) ((row.set k (-1)).set k r) :: oX 25 O 4 [Vi Ln,Vi 0,vN,vE] :: oB vE fins :: ⟨.slice gl us.length cl,23,1,us.length,us⟩ :: (dk vN vs rows ++ ja us sets))) af hS ?_ (fun r a w23 hS h8=>?_))
   ·have hss:=(zz h (i:=4) rfl hus (fun x hx=>List.mem_cons_of_mem _ (List.mem_cons_of_mem _ (List.mem_cons_of_mem _ (List.mem_cons_of_mem _ (List.mem_cons_of_mem _ (List.mem_append_right _ hx))))))).1;have hsl2:=h.r.slB (i:=0) rfl
    repeat refine zX rfl ?_
    refine zF rfl (en_sets) (aih _ _ sets out _ hss hsl2.1 (fun r hr=>by rw [hI.len r hr,hol])) ?_;rintro e w23 ⟨r,rfl,k1,hr⟩;refine ⟨_,rfl,?_⟩;have h2:=h.below k1;have h3:=h2.storeI (i:=1) rfl k r
    repeat refine zX rfl ?_
    refine zI rfl (rfl) (hkL) ?_;refine zS rfl rfl (h2.r.cellI (i:=1) rfl (j:=k) (by omega)) (h2.r.free (i:=1) rfl _) ?_;exact aj ⟨r,⟨rfl,rfl,rfl,rfl,rfl,rfl,rfl,rfl,rfl,rfl,rfl,rfl,trivial⟩,hr,h3⟩
   obtain ⟨hr,h⟩:=h8;rw [List.set_set] at h;have hrr : (row.set k r).length = Ln:=by simp [hrl]
   refine wp_seq (ai [(1,.slice ah hid.length ch),(2,Vp M),(4,Vp R),(6,Vp X),(7,Vi nx.length),(9,.slice gl us.length cl),(10,Vp O),(11,Vi i),(12,Vs g Ln Ln),(13,.bool en),(15,Vi k),(16,Vs g2 nx.length c2),(147,.bool (decide (r < 0)))] (· = w23) af hS ?_ (fun a w24 hS hw=>?_))
   ·have hc:=h.r.cellI (i:=1) rfl (j:=k) (by rw [hrr]; exact hkL);rw [List.getElem_set_self] at hc
    repeat refine zX rfl ?_
    refine zI rfl (rfl) (hkL) ?_;refine zL rfl (hc) ?_;refine zC rfl (rfl) ?_;exact aj ⟨⟨rfl,rfl,rfl,rfl,rfl,rfl,rfl,rfl,rfl,rfl,rfl,rfl,rfl,trivial⟩,rfl⟩
   subst hw;refine cond hS rfl (fun hT8=>?_) (fun hF8=>wp_skip ?_)
   case refine_2=>
    rcases hr with ⟨rfl,_⟩ | ⟨m,hm,rfl,hmo⟩
    ·cases hF8
    refine ⟨_,us,sets,_,hS.sub ⟨rfl,rfl,rfl,rfl,rfl,rfl,rfl,rfl,rfl,rfl,rfl,trivial⟩,by omega,fun c hc=>?_,hus,hI,hrr,hlt,hen,h.tail⟩;rw [dp]
    split
    ·rename_i e;obtain ⟨rfl,_⟩:=e;refine .inr (.inr ⟨hhf,m,rfl,hm,fun j=>?_⟩);rw [o8 hm,hmo];exact hor j
    ·rename_i e;exact hrow c (by omega)
   rcases hr with ⟨rfl,hnew⟩ | ⟨m,hm,rfl,hmo⟩
   case inr=>have:=of_decide_eq_true hT8; omega
   refine wp_seq (ai [(1,.slice ah hid.length ch),(2,Vp M),(4,Vp R),(6,Vp X),(7,Vi nx.length),(9,.slice gl us.length cl),(10,Vp O),(11,Vi i),(12,Vs g Ln Ln),(13,.bool en),(15,Vi k),(16,Vs g2 nx.length c2)] (fun w'=>Hold w5.heap.size w5 w' (oB (Vs g2 nx.length c2) out :: oI (Vs g Ln Ln) (row.set k (us.length : Nat)) :: oX 25 O 4 [Vi Ln,Vi 0,vN,vE] :: oB vE fins :: ⟨.slice gl us.length cl,23,1,us.length,us⟩ :: (dk vN vs rows ++ ja us sets))) af hS ?_ (fun a w25 hS h=>?_))
   ·have h3:=h.storeI (i:=1) rfl k (us.length : Nat);rw [List.set_set] at h3
    repeat refine zX rfl ?_
    refine zI rfl (rfl) (hkL) ?_;refine zS rfl rfl (h.r.cellI (i:=1) rfl (j:=k) (by rw [hrr]; exact hkL)) (h.r.free (i:=1) rfl _) ?_;exact aj ⟨⟨rfl,rfl,rfl,rfl,rfl,rfl,rfl,rfl,rfl,rfl,rfl,rfl,trivial⟩,h3⟩
   have hnd : HideI Ln nx fx hid sx (sets ++ [out]) rows fins:=hI.add_set hlt hkL hhf hol hnew hor ⟨j0,hstep0⟩;refine bg (α:=Value) (fun vl'=>[(1,.slice ah hid.length ch),(2,Vp M),(4,Vp R),(6,Vp X),(7,Vi nx.length),(9,vl'),(10,Vp O),(11,Vi i),(12,Vs g Ln Ln),(13,.bool en),(15,Vi k)]) (fun vl' w'=>Hold w5.heap.size w5 w' (oI (Vs g Ln Ln) (row.set k (us.length : Nat)) :: oX 25 O 4 [Vi Ln,Vi 0,vN,vE] :: oB vE fins :: ⟨vl',23,1,(us ++ [Vs g2 nx.length c2]).length,us ++ [Vs g2 nx.length c2]⟩ :: (dk vN vs rows ++ ja (us ++ [Vs g2 nx.length c2]) (sets ++ [out])))) af hS ?_ (fun vl' a w26 hS h=>⟨vl',us ++ [Vs g2 nx.length c2],sets ++ [out],_,hS,by simp; omega,fun c hc=>?_,by simp [hus],hnd,by simp [hrl],by simp; omega,by rw [ko hlt]; exact hen,h⟩)
   ·have h3:=h.alloc (.cells #[Vs g2 nx.length c2] 23)
    repeat refine zX rfl ?_
    refine b8 rfl rfl rfl ?_;refine exI [(0,Vs g2 nx.length c2)] (exI #[Vs g2 nx.length c2] (anI (anI rfl rfl) (anI (by decide) (anI (uh _ _ _ _) ?_))))
    have ask : AppAsk (w25.alloc (.cells #[Vs g2 nx.length c2] 23)) ⟨23,.slice 4,1,24,.slice none 0 0⟩ (.slice gl us.length cl) us.length us (Vs w25.heap.size 1 1) 1 [Vs g2 nx.length c2] w5.heap.size:=
     ⟨h3.r.1 4 _ rfl,.inr ⟨_,0,_,rfl,ax rfl,trivial⟩,rfl,(by simp [Value.oneCell']),(by omega),(by show (us.length + 1) * 24 ≤ _; omega),h3.s⟩
    refine b8 rfl rfl rfl ?_;refine exI _ (exI _ (exI _ (exI _ (exI _ (anI (ask) (anI (fun _ h=>h.symm) (anI (by decide) ?_)))))));rintro v' w26 hown hgr - hat;have h4:=h3.app (i:=4) rfl hown hgr hat;have h5:=h4.perm (List.perm_append_comm (l₁:=[_]))
    repeat refine zX rfl ?_
    refine aj ⟨v',⟨rfl,rfl,rfl,rfl,rfl,rfl,rfl,rfl,rfl,rfl,rfl,trivial⟩,?_⟩;rw [ac5 hus,← List.append_assoc,List.length_append];exact h5
   ·rw [dp]
    split
    ·rename_i e;obtain ⟨rfl,_⟩:=e;refine .inr (.inr ⟨hhf,sets.length,by rw [hus],by simp,fun j=>?_⟩);rw [abt,ko hlt];exact hor j
    ·rename_i e;exact (hrow c (by omega)).app hlt
  clear hS h hrow1 hrow hso hset hsn hI hen hus;rintro a w21 ⟨vl,us,sets,row,hS,hs4,hrow,hus,hI,hrl,hlt,hen,h⟩;refine ay ?_;refine b4 ?_;refine ai [(1,.slice ah hid.length ch),(2,Vp M),(4,Vp R),(6,Vp X),(7,Vi nx.length),(9,vl),(10,Vp O),(11,Vi i),(12,Vs g Ln Ln),(13,.bool en),(15,Vi (k + 1 : Nat))] (· = w21) af hS ?_ (fun a w22 hS hw=>?_)
  ·repeat refine zX rfl ?_
   refine zN rfl (ck (by omega)) ?_
   repeat refine zX rfl ?_
   exact aj ⟨⟨rfl,rfl,rfl,rfl,rfl,rfl,rfl,rfl,rfl,rfl,rfl,trivial⟩,rfl⟩
  subst hw;exact ⟨Ln - (k + 1),_,by omega,⟨k + 1,vl,us,sets,row,hkL,rfl,rfl,hs4,hrow,hus,hI,hrl,hlt,hen,h⟩,hS⟩
 clear hS h hI hus hen hsl hlt hs4 hile;rintro a wr ⟨vl,us,sets,row,hS,hs4,hrow,hus,hI,hrl,hlt,hen,h⟩;obtain ⟨gl,cl,rfl,-⟩:=h.r.any (i:=3) (v:=vl) (e:=23) (s:=1) (n:=us.length) (xs:=us) rfl;refine wp_seq (wp_seq (ai [(1,.slice ah hid.length ch),(2,Vp M),(4,Vp R),(6,Vp X),(7,Vi nx.length),(9,.slice gl us.length cl),(10,Vp O),(11,Vi i),(12,Vs g Ln Ln),(13,.bool en),(159,.bool (decide (4000 < sets.length)))] (· = wr) af hS ?_ (fun a w15 hS hw=>?_)))
 ·rw [← hus]
  repeat refine zX rfl ?_
  refine zC rfl (co 4000 _) ?_
  repeat refine zX rfl ?_
  exact aj ⟨⟨rfl,rfl,rfl,rfl,rfl,rfl,rfl,rfl,rfl,rfl,rfl,trivial⟩,rfl⟩
 subst hw;refine cond hS rfl (fun hT9=>?_) (fun hF9=>wp_skip ?_)
 ·have hfull:=hI.full (of_decide_eq_true hT9) (fun a j hj=>by
   rcases Nat.lt_or_ge a sets.length with h1 | h1
   ·have:=z8 h1 hj
    rw [hI.len _ (List.getElem_mem h1)] at this;exact this
   ·rw [setP,List.getD_eq_getElem?_getD (l:=sets),List.getElem?_eq_none h1] at hj;simp at hj)
  have oR':=oR.keep h.b oR.lt;have hg:=bz R [Vi 0,Vi 0,.slice none 0 0,.slice none 0 0] 0 w15;refine wp_seq (ai [(4,Vp R),(5,Vi 5)] (fun w'=>RowKit.Below w.heap.size w w' ∧ OwnB w' R 25 [Vi 0,Vi 0,.slice none 0 0,.slice none 0 0]) af hS ?_ (fun a w16 hS hw=>?_))
  ·repeat refine zX rfl ?_
   refine cj rfl rfl (anI rfl (anI rfl (anI (b0 oR') ?_)))
   repeat refine zX rfl ?_
   exact aj ⟨⟨rfl,rfl,trivial⟩,a6 (ak hB h.b) hg (fun k hk=>by cases hk; exact hRw),oR'.sets rfl⟩
  obtain ⟨hB3,oR3⟩:=hw;refine wp_ret ?_
  repeat first|refine a8 ?_|refine am ?_
  refine p9 af hS rfl rfl rfl rfl rfl (o:=0) (vs:=[Vi 0,Vi 0,.slice none 0 0,.slice none 0 0]) ⟨oR3.cell (i:=0) rfl,oR3.cell (i:=1) rfl,oR3.cell (i:=2) rfl,oR3.cell (i:=3) rfl,trivial⟩ rfl ⟨0,0,5,_,_,[],[],rfl,ab7,hB3,.inr ⟨hv0,hhl,sx,nx,fx,hcan,by rw [hLN]; exact hal,.inl ⟨by rw [hLN]; exact hfull,rfl,rfl,rfl,rfl,rfl⟩⟩⟩
 have hs5 : sets.length ≤ 4000:=by have:=of_decide_eq_false hF9; omega
 have hfle : fins.length ≤ 4000:=by have:=hI.fl; have:=hI.le; omega
 have hrle : rows.length < sets.length:=by rw [← hi]; exact hlt
 refine wp_seq (bg (α:=Value) (fun _=>[(1,.slice ah hid.length ch),(2,Vp M),(4,Vp R),(6,Vp X),(7,Vi nx.length),(9,.slice gl us.length cl),(10,Vp O),(11,Vi i),(12,Vs g Ln Ln),(13,.bool en)]) (fun vN' w'=>Hold w5.heap.size w5 w' (oI (Vs g Ln Ln) row :: oX 25 O 4 [Vi Ln,Vi 0,vN',vE] :: oB vE fins :: ⟨.slice gl us.length cl,23,1,us.length,us⟩ :: ((⟨vN',34,1,vs.length + 1,vs ++ [Vs g Ln Ln]⟩ :: List.zipWith (fun v l=>oI v l) vs rows) ++ ja us sets))) af hS ?_ (fun vN' a w16 hS h=>?_))
 ·obtain ⟨gvp,cvp,rfl,-⟩:=h.r.any (i:=4) (v:=vN) (e:=34) (s:=1) (n:=vs.length) (xs:=vs) rfl;have h3:=h.alloc (.cells #[Vs g Ln Ln] 34)
  repeat refine zX rfl ?_
  refine zL rfl (h.r.xcell (i:=1) rfl (j:=2) rfl) ?_
  repeat refine zX rfl ?_
  refine b8 rfl rfl rfl ?_;refine exI [(0,Vs g Ln Ln)] (exI #[Vs g Ln Ln] (anI (anI rfl rfl) (anI (by decide) (anI (uh _ _ _ _) ?_))))
  have ask : AppAsk (w15.alloc (.cells #[Vs g Ln Ln] 34)) ⟨34,.slice 3,1,24,.slice none 0 0⟩ (.slice gvp vs.length cvp) vs.length vs (Vs w15.heap.size 1 1) 1 [Vs g Ln Ln] w5.heap.size:=
   ⟨h3.r.1 4 _ rfl,.inr ⟨_,0,_,rfl,ax rfl,trivial⟩,rfl,(by simp [Value.oneCell']),(by omega),(by show (vs.length + 1) * 24 ≤ _; omega),h3.s⟩
  refine b8 rfl rfl rfl ?_;refine exI _ (exI _ (exI _ (exI _ (exI _ (anI (ask) (anI (fun _ h=>h.symm) (anI (by decide) ?_)))))));rintro v' w17 hown2 hgr - hat;have h4:=h3.app (i:=4) rfl hown2 hgr hat;obtain ⟨g2,n2',c2,hv⟩:=df hown2;subst hv
  repeat refine zX rfl ?_
  refine zS rfl rfl (h4.r.xcell (i:=1) rfl (j:=2) rfl) (h4.r.free (i:=1) rfl _) ?_;exact aj ⟨_,⟨rfl,rfl,rfl,rfl,rfl,rfl,rfl,rfl,rfl,rfl,trivial⟩,h4.xstore (i:=1) rfl 2 _⟩
 refine bg (α:=Value) (fun _=>[(1,.slice ah hid.length ch),(2,Vp M),(4,Vp R),(6,Vp X),(7,Vi nx.length),(9,.slice gl us.length cl),(10,Vp O),(11,Vi i)]) (fun vE' w'=>Hold w5.heap.size w5 w' (oI (Vs g Ln Ln) row :: oX 25 O 4 [Vi Ln,Vi 0,vN',vE'] :: oB vE' (fins ++ [en]) :: ⟨.slice gl us.length cl,23,1,us.length,us⟩ :: ((⟨vN',34,1,vs.length + 1,vs ++ [Vs g Ln Ln]⟩ :: List.zipWith (fun v l=>oI v l) vs rows) ++ ja us sets))) af hS ?_ (fun vE' a w17 hS h=>?_)
 ·obtain ⟨ge,ce2,rfl,-⟩:=h.r.any (i:=2) (v:=vE) (e:=4) (s:=1) (n:=fins.length) (xs:=ip fins) rfl;have h3:=h.alloc (.cells #[.bool en] 4)
  repeat refine zX rfl ?_
  refine zL rfl (h.r.xcell (i:=1) rfl (j:=3) rfl) ?_
  repeat refine zX rfl ?_
  refine b8 rfl rfl rfl ?_;refine exI [(0,.bool (en))] (exI #[.bool (en)] (anI (anI rfl rfl) (anI (by decide) (anI (fillB _ _) ?_))))
  have ask : AppAsk (w16.alloc (.cells #[.bool en] 4)) ⟨4,.bool,1,1,.bool false⟩ (.slice ge fins.length ce2) fins.length (ip fins) (Vs w16.heap.size 1 1) 1 [.bool en] w5.heap.size:=
   ⟨h3.r.1 2 _ rfl,.inr ⟨_,0,_,rfl,ax rfl,trivial⟩,rfl,(by simp [Value.oneCell']),(by omega),(by show (fins.length + 1) * 1 ≤ _; omega),h3.s⟩
  refine b8 rfl rfl rfl ?_;refine exI _ (exI _ (exI _ (exI _ (exI _ (anI (ask) (anI (fun _ h=>h.symm) (anI (by decide) ?_)))))));rintro v' w17 hown2 hgr - hat;have h4:=h3.appB (ys:=[en]) (i:=2) rfl hown2 hgr hat;obtain ⟨g2,n2',c2,hv⟩:=df hown2;subst hv
  repeat refine zX rfl ?_
  refine zS rfl rfl (h4.r.xcell (i:=1) rfl (j:=3) rfl) (h4.r.free (i:=1) rfl _) ?_;exact aj ⟨_,⟨rfl,rfl,rfl,rfl,rfl,rfl,rfl,rfl,trivial⟩,h4.xstore (i:=1) rfl 3 _⟩
 refine ay ?_;refine b4 ?_;refine ai [(1,.slice ah hid.length ch),(2,Vp M),(4,Vp R),(6,Vp X),(7,Vi nx.length),(9,.slice gl us.length cl),(10,Vp O),(11,Vi (i + 1 : Nat))] (· = w17) af hS ?_ (fun a w18 hS hw=>?_)
 ·repeat refine zX rfl ?_
  refine zN rfl (ck (by omega)) ?_
  repeat refine zX rfl ?_
  exact aj ⟨⟨rfl,rfl,rfl,rfl,rfl,rfl,rfl,rfl,trivial⟩,rfl⟩
 subst hw;refine ⟨4001 - (i + 1),_,by omega,⟨i + 1,.slice gl us.length cl,vN',vE',us,vs ++ [Vs g Ln Ln],sets,rows ++ [row],fins ++ [en],rfl,rfl,by simp [hi],hus,by simp [hvs],hs5,hI.add_row hrle hrl (fun c hc=>?_) (by rw [← hi]; exact hen),?_⟩,hS⟩
 ·rw [← hi]
  have:=hrow c (by omega)
  rwa [List.getD_eq_getElem?_getD,List.getElem?_eq_getElem hc,Option.getD_some] at this
 ·rw [mo hvs];have h5:=h.perm (List.perm_middle (a:=oI (Vs g Ln Ln) row) (l₁:=oX 25 O 4 [Vi Ln,Vi 0,vN',vE'] :: oB vE' (fins ++ [en]) :: ⟨.slice gl us.length cl,23,1,us.length,us⟩ :: ⟨vN',34,1,vs.length + 1,vs ++ [Vs g Ln Ln]⟩ :: List.zipWith (fun v l=>oI v l) vs rows) (l₂:=ja us sets)).symm
  simpa using h5
end
section
open Go Sym
set_option maxHeartbeats 4000000 in
theorem aHide_c : acv 7:=by
 intro L s vn ve vh next fin hid w hm hh hn14 ht;refine Sym.c8 (args:=[.agg #[Vi L,Vi s,vn,ve],vh]) Tryz.func7 rfl rfl rfl (fun a0 hS0=>?_);obtain ⟨ah,ch,rfl⟩:=hh.len;refine wp_seq (bg (α:=Nat × Nat × Nat) (fun x=>[(2,Vp x.1),(3,Vp x.2.1),(4,Vp x.2.2),(5,Vi 0)]) (fun x w'=>RowKit.Below w.heap.size w w' ∧ OwnB w' x.1 25 [Vi L,Vi s,vn,ve] ∧ OwnB w' x.2.1 23 [.slice ah hid.length ch] ∧ OwnB w' x.2.2 25 [Vi 0,Vi 0,.slice none 0 0,.slice none 0 0] ∧ w.heap.size ≤ x.1 ∧ x.1 < x.2.1 ∧ x.2.1 < x.2.2) af hS0 ?_ (fun x a w1 hS h=>?_))
 ·obtain ⟨u1,hu1⟩ : ∃ u,w.alloc (.cells #[Vi L,Vi s,vn,ve] 25) = u:=⟨_,rfl⟩;obtain ⟨u2,hu2⟩ : ∃ u,u1.alloc (.cells #[.slice ah hid.length ch] 23) = u:=⟨_,rfl⟩;have hb1:=ao w (.cells #[Vi L,Vi s,vn,ve] 25);have o1:=OwnB.new w [Vi L,Vi s,vn,ve] 25;have hb2:=ao u1 (.cells #[.slice ah hid.length ch] 23);have o2:=OwnB.new u1 [.slice ah hid.length ch] 23;have hb3:=ao u2 (.cells #[Vi 0,Vi 0,.slice none 0 0,.slice none 0 0] 25);have o3:=OwnB.new u2 [Vi 0,Vi 0,.slice none 0 0,.slice none 0 0] 25;refine zB rfl ?_;rw [show w.alloc (.cells (Value.agg #[Vi L,Vi s,vn,ve]).cells 25) = u1 from hu1]
  refine zB rfl ?_;rw [show u1.alloc (.cells (.slice ah hid.length ch : Value).cells 23) = u2 from hu2]
  rw [show w.alloc (.cells #[Vi L,Vi s,vn,ve] 25) = u1 from hu1] at hb1
  have o1' : OwnB u1 w.heap.size 25 [Vi L,Vi s,vn,ve]:=hu1 ▸ o1;rw [show u1.alloc (.cells #[.slice ah hid.length ch] 23) = u2 from hu2] at hb2
  have o2' : OwnB u2 u1.heap.size 23 [.slice ah hid.length ch]:=hu2 ▸ o2;have o1'':=o1'.keep hb2 o1'.lt;refine zB rfl ?_
  repeat refine zX rfl ?_
  exact aj ⟨(_,_,_),⟨rfl,rfl,rfl,rfl,trivial⟩,ak (ak hb1 hb2) hb3,o1''.keep hb3 o1''.lt,o2'.keep hb3 o2'.lt,o3,Nat.le_refl _,o1'.lt,o2'.lt⟩
 obtain ⟨M,H,R⟩:=x;obtain ⟨hB,oM,oH,oR,hMw,hMH,hHR⟩:=h;dsimp only at hS oM oH oR hMw hMH hHR;clear hS0;have hm1:=hm.keep hB;obtain ⟨b22,hb22⟩ : ∃ b,(decide (de L s next fin ≠ 0) || decide ((hid.length : Int) ≠ L)) = b:=⟨_,rfl⟩;refine wp_seq (wp_seq (ai [(2,Vp M),(3,Vp H),(4,Vp R),(5,Vi 0),(22,.bool b22)] (fun w'=>RowKit.Below w1.heap.size w1 w') af hS ?_ (fun a w2 hS hw=>?_)))
 ·refine zA ([Vi L,Vi s,vn,ve]) rfl rfl (⟨oM.cell (i:=0) rfl,oM.cell (i:=1) rfl,oM.cell (i:=2) rfl,oM.cell (i:=3) rfl,trivial⟩) ?_;refine zF rfl (l4) (jl L s vn ve next fin _ hm1) ?_;rintro e w2 ⟨rfl,k1⟩;refine ⟨_,rfl,?_⟩
  cases e1 : decide (de L s next fin ≠ 0)
  case true=>
   rw [e1,Bool.true_or] at hb22; subst hb22;refine zC rfl (e1) ?_
   repeat refine zX rfl ?_
   exact aj ⟨⟨rfl,rfl,rfl,rfl,rfl,trivial⟩,k1⟩
  case false=>
   rw [e1,Bool.false_or] at hb22; subst hb22;refine zC rfl (e1) ?_
   repeat refine zX rfl ?_
   refine zL rfl ((oH.keep k1 oH.lt).cell (i:=0) rfl) ?_
   repeat refine zX rfl ?_
   refine zL rfl ((oM.keep k1 oM.lt).cell (i:=0) rfl) ?_;refine zC rfl (rfl) ?_
   repeat refine zX rfl ?_
   exact aj ⟨⟨rfl,rfl,rfl,rfl,rfl,trivial⟩,k1⟩
 replace hm1:=hm1.keep hw;replace oM:=oM.keep hw oM.lt;replace oH:=oH.keep hw oH.lt;replace oR:=oR.keep hw oR.lt;replace hB:=ak hB hw;clear hw;refine cond hS rfl (fun hT=>?_) (fun hF=>wp_skip ?_)
 ·rw [hT,Bool.or_eq_true,decide_eq_true_eq,decide_eq_true_eq] at hb22;have hg:=bz R [Vi 0,Vi 0,.slice none 0 0,.slice none 0 0] 0 w2;refine wp_seq (ai [(4,Vp R),(5,Vi 1)] (fun w'=>RowKit.Below w.heap.size w w' ∧ OwnB w' R 25 [Vi 0,Vi 0,.slice none 0 0,.slice none 0 0]) af hS ?_ (fun a w3 hS hw=>?_))
  ·repeat refine zX rfl ?_
   refine cj rfl rfl (anI rfl (anI rfl (anI (b0 oR) ?_)))
   repeat refine zX rfl ?_
   exact aj ⟨⟨rfl,rfl,trivial⟩,a6 hB hg (fun k hk=>by cases hk; omega),oR.sets rfl⟩
  obtain ⟨hB3,oR3⟩:=hw;refine wp_ret ?_
  repeat first|refine a8 ?_|refine am ?_
  refine p9 af hS rfl rfl rfl rfl rfl (o:=0) (vs:=[Vi 0,Vi 0,.slice none 0 0,.slice none 0 0]) ⟨oR3.cell (i:=0) rfl,oR3.cell (i:=1) rfl,oR3.cell (i:=2) rfl,oR3.cell (i:=3) rfl,trivial⟩ rfl ⟨0,0,1,_,_,[],[],rfl,ab7,hB3,.inl ⟨hb22,rfl,rfl,rfl,rfl,rfl⟩⟩
 rw [hF,Bool.or_eq_false_iff] at hb22;have hv0 : de L s next fin = 0:=Decidable.not_not.1 (of_decide_eq_false hb22.1);have hhl : (hid.length : Int) = L:=Decidable.not_not.1 (of_decide_eq_false hb22.2);obtain ⟨hsh,hL300,-⟩:=db hv0;obtain ⟨Ln,rfl⟩:=Int.eq_ofNat_of_zero_le hsh.L0;have hLN : ((Ln : Nat) : Int).toNat = Ln:=Int.toNat_natCast _;have hhn : hid.length = Ln:=by omega
 clear hF hb22;refine wp_seq (bg (α:=(Int × Value × Value) × List (List Int) × List Bool) (fun _=>[(2,Vp M),(3,Vp H),(4,Vp R),(5,Vi 0)]) (fun x w'=>RowKit.Below w.heap.size w w' ∧ OwnB w' H 23 [.slice ah hid.length ch] ∧ OwnB w' R 25 [Vi 0,Vi 0,.slice none 0 0,.slice none 0 0] ∧ MBx w' M Ln x.1.1 x.2.1 x.2.2 x.1.2.1 x.1.2.2 ∧ Canon Ln x.1.1 x.2.1 x.2.2 ∧ dq Ln x.2.1 x.2.2 x.1.1 next fin s) af hS ?_ (fun x a w3 hS h=>?_))
 ·refine zA ([Vi Ln,Vi s,vn,ve]) rfl rfl (⟨oM.cell (i:=0) rfl,oM.cell (i:=1) rfl,oM.cell (i:=2) rfl,oM.cell (i:=3) rfl,trivial⟩) ?_;refine zF rfl (tc) (qv Ln s vn ve next fin w2 hm1 hv0 (by omega)) ?_;rintro e u ⟨s',vn',ve',vs,n',f',rfl,hs',hvs,hI64,hH,hcan,hal⟩;refine ⟨_,rfl,?_⟩;obtain ⟨ge,ce,rfl,-⟩:=hH.r.any (i:=0) rfl;obtain ⟨gn,cn,hvn,-⟩:=hH.r.any (i:=1) (v:=vn') (e:=34) (s:=1) (n:=vs.length) (xs:=vs) rfl;subst hvn;rw [List.append_nil] at hH;have k1:=hH.b;have oM':=oM.keep k1 oM.lt;have oR':=oR.keep k1 oR.lt;have oH':=oH.keep k1 oH.lt;have hown:=yp hH hvs hI64;have hma:=agc hown hm1.L hs' oM' [Vi Ln,Vi s',.slice gn vs.length cn,.slice ge f'.length ce];have hg:=bz M [Vi Ln,Vi s',.slice gn vs.length cn,.slice ge f'.length ce] 0 u
  repeat refine zX rfl ?_
  refine cj rfl rfl (anI rfl (anI rfl (anI (b0 oM') ?_)));exact aj ⟨((s',.slice gn vs.length cn,.slice ge f'.length ce),n',f'),⟨rfl,rfl,rfl,rfl,trivial⟩,a6 (ak hB k1) hg (fun k hk=>by cases hk; omega),oH'.kept hg (by simp; omega),oR'.kept hg (by simp; omega),⟨oM'.sets rfl,hma⟩,hcan,by rw [← hLN]; exact hal⟩
 obtain ⟨⟨sx,vnx,vex⟩,nx,fx⟩:=x;obtain ⟨hB,oH,oR,hX,hcan,hal⟩:=h;dsimp only at hX hcan hal;clear hm1 oM;have hs1:=hcan.shape
 have hnx : nx.length ≤ 14:=by
  have:=ahl hsh hcan (by rw [hLN]; exact hal)
  omega
 have hL1 : Ln ≤ 300:=by omega
 refine wp_seq (bg (α:=Nat × Nat) (fun x=>[(2,Vp M),(3,Vp H),(4,Vp R),(5,Vi 0),(6,Vp x.1)]) (fun x w'=>RowKit.Below w3.heap.size w3 w' ∧ OwnB w' x.1 51 [Vs x.2 Ln Ln] ∧ aej w' x.2 nx Ln nx.length) af hS ?_ (fun x a w4 hS h=>?_))
 ·refine zA ([Vi Ln,Vi sx,vnx,vex]) rfl rfl (hX.cells) ?_;refine zF rfl (xo) (un Ln sx vnx vex nx fx w3 hX.m hs1 (by omega) (by omega)) ?_;rintro e u ⟨g,us,rfl,hus,hH⟩;refine ⟨_,rfl,?_⟩;have hc:=col_at hH hus;have o1:=OwnB.new u [.slice none 0 0] 51;have b1:=ao u (.cells #[.slice none 0 0] 51);have b2:=b1.setCell (p:=⟨u.heap.size,0,none⟩) (Nat.le_refl _) (Vs g Ln Ln);refine zB rfl ?_;refine zS rfl rfl (o1.cell (i:=0) rfl) (o1.free 0) ?_;exact aj ⟨(_,g),⟨rfl,rfl,rfl,rfl,rfl,trivial⟩,ak hH.b b2,o1.set 0 _,hc.keep b2⟩
 obtain ⟨C,gc⟩:=x;obtain ⟨hw,oC,hca⟩:=h;dsimp only at hS oC hca;replace oH:=oH.keep hw oH.lt;replace oR:=oR.keep hw oR.lt;replace hX:=hX.keep hw;replace hB:=ak hB hw;clear hw;refine wp_seq (bg (α:=Nat × Nat × List Nat) (fun x=>[(2,Vp M),(3,Vp H),(4,Vp R),(5,Vi 0),(6,Vp C),(7,Vp x.1)]) (fun x w'=>RowKit.Below w4.heap.size w4 w' ∧ OwnB w' x.1 53 [Vs x.2.1 nx.length nx.length] ∧ ReAt w' x.2.1 nx.length x.2.2 ∧ ∀ s,s < nx.length → gt x.2.2 s < 16384 ∧ ∀ j,bitP (gt x.2.2 s) j ↔ HRun Ln nx hid (fun i=>i = s) [] j) af hS ?_ (fun x a w5 hS h=>?_))
 ·refine zA ([Vi Ln,Vi sx,vnx,vex]) rfl rfl (hX.cells) ?_;refine zL rfl (oH.cell (i:=0) rfl) ?_;refine zF rfl (xj) (um Ln sx vnx vex (.slice ah hid.length ch) nx fx hid w4 hX.m hs1 hnx (by omega) (hh.keep hB (fun _ _ h=>h)) hhn) ?_;rintro e u ⟨g,us,xs,rfl,hus,hxs,hR,hH⟩;refine ⟨_,rfl,?_⟩;have hc:=re_at hH hus hxs;have o1:=OwnB.new u [.slice none 0 0] 53;have b1:=ao u (.cells #[.slice none 0 0] 53);have b2:=b1.setCell (p:=⟨u.heap.size,0,none⟩) (Nat.le_refl _) (Vs g nx.length nx.length);refine zB rfl ?_;refine zS rfl rfl (o1.cell (i:=0) rfl) (o1.free 0) ?_;exact aj ⟨(_,g,xs),⟨rfl,rfl,rfl,rfl,rfl,rfl,trivial⟩,ak hH.b b2,o1.set 0 _,hc.keep b2,hR⟩
 obtain ⟨E,gr,xs⟩:=x;obtain ⟨hw,oE,hra,hR⟩:=h;dsimp only at hS oE hra hR;replace oH:=oH.keep hw oH.lt;replace oR:=oR.keep hw oR.lt;replace oC:=oC.keep hw oC.lt;replace hX:=hX.keep hw;replace hca:=hca.keep hw;replace hB:=ak hB hw;clear hw;refine wp_seq (bg (α:=Nat) (fun T=>[(2,Vp M),(3,Vp H),(4,Vp R),(5,Vi 0),(6,Vp C),(7,Vp E),(8,Vp T)]) (fun T w'=>RowKit.Below w5.heap.size w5 w' ∧ OwnB w' T 56 (setC 0) ∧ w5.heap.size ≤ T) af hS ?_ (fun T a w6 hS h=>?_))
 ·have h4:=OwnB.new w5 (setC 0) 56;have hg:=bz w5.heap.size (setC 0) 0 (w5.alloc (.cells (setC 0).toArray 56));have h6:=a6 (ao w5 (.cells (setC 0).toArray 56)) hg (fun q hq=>by cases hq; exact Nat.le_refl _)
  repeat refine zX rfl ?_
  refine zB rfl ?_;refine cj rfl rfl (anI rfl (anI (o9 0) (anI (ke h4 (n:=63) (by decide)) ?_)));exact aj ⟨_,⟨rfl,rfl,rfl,rfl,rfl,rfl,rfl,trivial⟩,h6,h4.sets rfl,Nat.le_refl _⟩
 obtain ⟨hw6,oT,hTl⟩:=h;refine wp_seq (wp_seq (ai [(2,Vp M),(3,Vp H),(4,Vp R),(5,Vi 0),(6,Vp C),(7,Vp E),(8,Vp T),(37,.bool (decide (0 ≤ sx)))] (· = w6) af hS ?_ (fun a w7 hS hw=>?_)))
 ·refine zP rfl ?_;refine zL rfl ((hX.o.keep hw6 hX.o.lt).cell (i:=1) rfl) ?_;refine zC rfl (rfl) ?_
  repeat refine zX rfl ?_
  exact aj ⟨⟨rfl,rfl,rfl,rfl,rfl,rfl,rfl,rfl,trivial⟩,rfl⟩
 subst hw;refine cut (F:=fun a' w'=>St Tryz.f7.ntmps a' [(2,Vp M),(3,Vp H),(4,Vp R),(5,Vi 0),(6,Vp C),(7,Vp E),(8,Vp T)] ∧ RowKit.Below w5.heap.size w5 w' ∧ OwnB w' T 56 (setC (fz Ln nx hid sx))) ?_ ?_
 ·refine cond hS rfl (fun hT=>?_) (fun hF=>wp_skip ?_)
  ·have h0 : 0 ≤ sx:=of_decide_eq_true hT;obtain ⟨k,rfl⟩:=Int.eq_ofNat_of_zero_le h0;have hk:=hs1.s2;have hk' : k < nx.length:=by omega
   obtain ⟨v,hv,hck⟩:=hra k hk';have hf:=ajf hs1 hR h0;rw [Int.toNat_natCast] at hf;have hgx:=(hR k hk').1;obtain ⟨av,cv,hvv⟩:=hck.len;refine ai [(2,Vp M),(3,Vp H),(4,Vp R),(5,Vi 0),(6,Vp C),(7,Vp E),(8,Vp T)] (fun w'=>RowKit.Below w5.heap.size w5 w' ∧ OwnB w' T 56 (setC (fz Ln nx hid (k : Nat)))) af hS ?_ (fun a w8 hS hw=>⟨hS,hw⟩);have hj:=zi (g:=T) w7 (oT.cell (i:=0) rfl) (oT.free 0) (by decide) hgx (hck.keep hw6);refine zL rfl ((oE.keep hw6 oE.lt).cell (i:=0) rfl) ?_;refine zP rfl ?_;refine zL rfl ((hX.o.keep hw6 hX.o.lt).cell (i:=1) rfl) ?_;refine zI rfl (rfl) (hk') ?_;refine zL rfl (keep hw6 hv) ?_;refine zF rfl (xk) (hj) ?_;rintro e w8 ⟨rfl,hj8⟩;refine ⟨_,rfl,?_⟩;refine aj ⟨⟨rfl,rfl,rfl,rfl,rfl,rfl,rfl,trivial⟩,?_⟩
   rcases hj8 with ⟨hy0,rfl⟩ | ⟨u,hu,rfl⟩
   ·rw [← hf,hy0]; exact ⟨hw6,oT⟩
   ·rw [← hf];refine ⟨(hw6.trans (hu.mono hw6.size)).setCell (p:=⟨T,0,none⟩) (show w5.heap.size ≤ T from hTl) _,?_⟩
    have:=(oT.keep hu oT.lt).set 0 (Vu (0 ||| gt xs k))
    rw [Nat.zero_or] at this;rw [Nat.zero_or];exact this
  ·have h0 : sx < 0:=by have:=of_decide_eq_false hF; omega
   rw [adr hs1 h0];exact ⟨hS.sub ⟨rfl,rfl,rfl,rfl,rfl,rfl,rfl,trivial⟩,hw6,oT⟩
 clear hS hw6 oT;rintro a w8 ⟨hS,hw,oT⟩;refine b4 ?_;replace oH:=oH.keep hw oH.lt;replace oR:=oR.keep hw oR.lt;replace oC:=oC.keep hw oC.lt;replace oE:=oE.keep hw oE.lt;replace hX:=hX.keep hw;replace hca:=hca.keep hw;replace hra:=hra.keep hw;replace hB:=ak hB hw;clear hw hTl;refine wp_seq (ai [(2,Vp M),(3,Vp H),(4,Vp R),(5,Vi 0),(6,Vp C),(7,Vp E),(8,Vp T),(9,.func (.func 26) #[] #[Vp H,Vp C,Vp E])] (· = w8) af hS ?_ (fun a w9 hS hw=>?_))
 ·repeat refine zX rfl ?_
  exact aj ⟨⟨rfl,rfl,rfl,rfl,rfl,rfl,rfl,rfl,trivial⟩,rfl⟩
 subst hw;refine wp_seq (ai [(2,Vp M),(3,Vp H),(4,Vp R),(5,Vi 0),(6,Vp C),(7,Vp E),(8,Vp T),(9,.func (.func 26) #[] #[Vp H,Vp C,Vp E]),(10,.func (.func 29) #[] #[Vp M])] (· = w9) af hS ?_ (fun a w10 hS hw=>?_))
 ·repeat refine zX rfl ?_
  exact aj ⟨⟨rfl,rfl,rfl,rfl,rfl,rfl,rfl,rfl,rfl,trivial⟩,rfl⟩
 subst hw;obtain ⟨F,hF⟩ : ∃ F,d7 (cd 0 (fz Ln nx hid sx)) (kx Ln nx.length nx hid) Ln = F:=⟨_,rfl⟩;have hp:=aft hnx;have hfc:=yu (hid:=hid) hs1
 have hcap : F.rows.length ≤ 16384:=by
  have:=(qh hs1 hF).inn.ok.cap
  rw [il] at this;omega
 have hbuild:=ad9 (rest:=[]) (G:=o0 Ln nx hid) (n:=2 ^ nx.length) (L:=Ln) (lim:=4000) (S:=26) (S2:=29) (x0:=fz Ln nx hid sx) (caps:=#[Vp H,Vp C,Vp E]) (caps2:=#[Vp M]) (next:=kx Ln nx.length nx hid) (fin:=qj Ln nx.length nx fx hid) (s0:=0) (F:=F) (Hold.start w10) hp il hfc.1 (fun _=>hfc) (by omega) (by omega) (by omega) mr ajk ajj
  (fun y c u hy hc hu=>agi hs1 hnx hR (ht.keep (ak hB hu.b)) ((oH.keep hu.b oH.lt).cell (i:=0) rfl) (hh.keep (ak hB hu.b) (fun _ _ h=>h)) hhn ((oC.keep hu.b oC.lt).cell (i:=0) rfl) (hca.keep hu.b) ((oE.keep hu.b oE.lt).cell (i:=0) rfl) (hra.keep hu.b) hy hc)
  (fun y u hy hu=>ajb hs1 hnx (ht.keep (ak hB hu.b)) ((hX.o.keep hu.b hX.o.lt).cell (i:=3) rfl) (hX.keep hu.b).m.e hy) hF
 refine wp_seq (bg (α:=Nat × Int × Value × Value) (fun x=>[(4,Vp R),(5,Vi 0),(11,Vp x.1),(12,Vi x.2.1)]) (fun x w'=>RowKit.Below w10.heap.size w10 w' ∧ ((F.rows.length ≤ 4000 ∧ x.2.1 = 0 ∧ MBx w' x.1 Ln ((if F.rows.length = 0 then -1 else 0 : Int)) (F.rows.map (bj F.place (kx Ln nx.length nx hid) Ln)) (bt F (qj Ln nx.length nx fx hid)) x.2.2.1 x.2.2.2) ∨ (4000 < F.rows.length ∧ x.2.1 = 5))) af hS ?_ (fun x a w11 hS h=>?_))
 ·refine zA (setC (fz Ln nx hid sx)) rfl rfl (lk oT) ?_
  repeat refine zX rfl ?_
  refine zL rfl (hX.o.cell (i:=0) rfl) ?_
  repeat refine zX rfl ?_
  refine zF rfl (ag4) (hbuild) ?_;rintro e u (⟨vb,vd,vs,hle,rfl,hFo,hvs,hI64,hH⟩ | ⟨hlt,rfl,hH⟩)
  ·refine ⟨_,rfl,?_⟩;obtain ⟨ge,ce,rfl,-⟩:=hH.r.any (i:=0) rfl;obtain ⟨gn,cn,hvn,-⟩:=hH.r.any (i:=1) (v:=vb) (e:=34) (s:=1) (n:=vs.length) (xs:=vs) rfl;subst hvn;have hmJ:=aap (L:=(Ln : Int)) (s:=((if F.rows.length = 0 then -1 else 0 : Int) : Int)) hH (by rw [List.length_map]; exact hvs) hI64 (by unfold I64; omega) (by unfold I64; split <;> omega);have hp2:=ab5 hmJ
   repeat refine zX rfl ?_
   refine zB rfl ?_;refine cj rfl rfl (anI rfl (anI rfl (anI (b0 (OwnB.new u [Vi 0,Vi 0,.slice none 0 0,.slice none 0 0] 25)) ?_)))
   repeat refine zX rfl ?_
   exact aj ⟨(_,0,_,_),⟨rfl,rfl,rfl,rfl,trivial⟩,ak hH.b hp2.1,.inl ⟨hle,rfl,hp2.2⟩⟩
  ·refine ⟨_,rfl,?_⟩;have hb1:=ao u (.cells #[Vi 0,Vi 0,.slice none 0 0,.slice none 0 0] 25);have hg:=bz u.heap.size [Vi 0,Vi 0,.slice none 0 0,.slice none 0 0] 0 (u.alloc (.cells #[Vi 0,Vi 0,.slice none 0 0,.slice none 0 0] 25));have h6:=a6 hb1 hg (fun q hq=>by cases hq; exact Nat.le_refl _)
   repeat refine zX rfl ?_
   refine zB rfl ?_;refine cj rfl rfl (anI rfl (anI rfl (anI (b0 (OwnB.new u [Vi 0,Vi 0,.slice none 0 0,.slice none 0 0] 25)) ?_)))
   repeat refine zX rfl ?_
   exact aj ⟨(_,5,.nilFunc,.nilFunc),⟨rfl,rfl,rfl,rfl,trivial⟩,ak hH.b h6,.inr ⟨hlt,rfl⟩⟩
 obtain ⟨X,r,vb,vd⟩:=x;obtain ⟨hw,h⟩:=h;dsimp only at hS h;replace oR:=oR.keep hw oR.lt;replace hB:=ak hB hw;clear hw;refine wp_seq (wp_seq (ai [(4,Vp R),(5,Vi 0),(11,Vp X),(12,Vi r),(57,.bool (decide (r ≠ 0)))] (· = w11) af hS ?_ (fun a w12 hS hw=>?_)))
 ·repeat refine zX rfl ?_
  refine zC rfl (rfl) ?_;exact aj ⟨⟨rfl,rfl,rfl,rfl,rfl,trivial⟩,rfl⟩
 subst hw;refine cond hS rfl (fun hT=>?_) (fun hF2=>wp_skip ?_)
 ·have hr0:=of_decide_eq_true hT
  rcases h with ⟨-,rfl,-⟩ | ⟨hlt,rfl⟩
  ·exact (hr0 rfl).elim
  have hfull:=agj hs1 hF hlt;have hg:=bz R [Vi 0,Vi 0,.slice none 0 0,.slice none 0 0] 0 w12;refine wp_seq (ai [(4,Vp R),(5,Vi 5)] (fun w'=>RowKit.Below w.heap.size w w' ∧ OwnB w' R 25 [Vi 0,Vi 0,.slice none 0 0,.slice none 0 0]) af hS ?_ (fun a w13 hS hw=>?_))
  ·repeat refine zX rfl ?_
   refine cj rfl rfl (anI rfl (anI rfl (anI (b0 oR) ?_)))
   repeat refine zX rfl ?_
   exact aj ⟨⟨rfl,rfl,trivial⟩,a6 hB hg (fun k hk=>by cases hk; omega),oR.sets rfl⟩
  obtain ⟨hB3,oR3⟩:=hw;refine wp_ret ?_
  repeat first|refine a8 ?_|refine am ?_
  refine p9 af hS rfl rfl rfl rfl rfl (o:=0) (vs:=[Vi 0,Vi 0,.slice none 0 0,.slice none 0 0]) ⟨oR3.cell (i:=0) rfl,oR3.cell (i:=1) rfl,oR3.cell (i:=2) rfl,oR3.cell (i:=3) rfl,trivial⟩ rfl ⟨0,0,5,_,_,[],[],rfl,ab7,hB3,.inr ⟨hv0,hhl,sx,nx,fx,hcan,by rw [hLN]; exact hal,.inl ⟨by rw [hLN]; exact hfull,rfl,rfl,rfl,rfl,rfl⟩⟩⟩
 have hr0 : r = 0:=Decidable.not_not.1 (of_decide_eq_false hF2);obtain ⟨hle,-,hY⟩:=h.resolve_right (fun h=>by omega);obtain ⟨hnf,hjs,hja⟩:=aja hs1 hF hle;have hjv:=nk hjs (by omega) (by rw [List.length_map]; exact hle);refine wp_seq (bg (α:=(Int × Value × Value) × List (List Int) × List Bool) (fun _=>[(4,Vp R),(5,Vi 0)]) (fun x w'=>RowKit.Below w.heap.size w w' ∧ OwnB w' R 25 [Vi Ln,Vi x.1.1,x.1.2.1,x.1.2.2] ∧ Ma w' Ln x.1.1 x.2.1 x.2.2 x.1.2.1 x.1.2.2 ∧ Canon Ln x.1.1 x.2.1 x.2.2 ∧ dq Ln x.2.1 x.2.2 x.1.1 (F.rows.map (bj F.place (kx Ln nx.length nx hid) Ln)) (bt F (qj Ln nx.length nx fx hid)) ((if F.rows.length = 0 then -1 else 0 : Int))) af hS ?_ (fun x a w13 hS h=>?_))
 ·refine zA ([Vi Ln,Vi ((if F.rows.length = 0 then -1 else 0 : Int) : Int),vb,vd]) rfl rfl (hY.cells) ?_;refine zF rfl (tc) (qv Ln ((if F.rows.length = 0 then -1 else 0 : Int)) vb vd _ _ w12 hY.m hjv (by rw [List.length_map]; exact hle)) ?_;rintro e u ⟨s',vn',ve',vs,n',f',rfl,hs',hvs,hI64,hH,hcan2,hal2⟩;refine ⟨_,rfl,?_⟩;obtain ⟨ge,ce,rfl,-⟩:=hH.r.any (i:=0) rfl;obtain ⟨gn,cn,hvn,-⟩:=hH.r.any (i:=1) (v:=vn') (e:=34) (s:=1) (n:=vs.length) (xs:=vs) rfl;subst hvn;rw [List.append_nil] at hH;have k1:=hH.b;have oR':=oR.keep k1 oR.lt;have hown:=yp hH hvs hI64;have hma:=agc hown hY.m.L hs' oR' [Vi Ln,Vi s',.slice gn vs.length cn,.slice ge f'.length ce];have hg:=bz R [Vi Ln,Vi s',.slice gn vs.length cn,.slice ge f'.length ce] 0 u
  repeat refine zX rfl ?_
  refine cj rfl rfl (anI rfl (anI rfl (anI (b0 oR') ?_)))
  repeat refine zX rfl ?_
  exact aj ⟨((s',.slice gn vs.length cn,.slice ge f'.length ce),n',f'),⟨rfl,rfl,trivial⟩,a6 (ak hB k1) hg (fun k hk=>by cases hk; omega),oR'.sets rfl,hma,hcan2,by rw [← hLN]; exact hal2⟩
 obtain ⟨⟨s',vn',ve'⟩,n',f'⟩:=x;obtain ⟨hB3,oR3,hma,hcan2,hal2⟩:=h;dsimp only at oR3 hma hcan2 hal2;refine wp_ret ?_
 repeat first|refine a8 ?_|refine am ?_
 refine p9 af hS rfl rfl rfl rfl rfl (o:=0) (vs:=[Vi Ln,Vi s',vn',ve']) ⟨oR3.cell (i:=0) rfl,oR3.cell (i:=1) rfl,oR3.cell (i:=2) rfl,oR3.cell (i:=3) rfl,trivial⟩ rfl ⟨Ln,s',0,_,_,n',f',rfl,hma,hB3,.inr ⟨hv0,hhl,sx,nx,fx,hcan,by rw [hLN]; exact hal,.inr ⟨by rw [hLN]; exact hnf,rfl,rfl,hcan2,fun v hv=>by rw [hLN] at hv ⊢; rw [hal2 v hv]; exact hja v hv⟩⟩⟩
end
section
open Go Go.Shelf
def wh : Go.Shelf.Ren:=⟨fun | 6=>46 | 15=>76 | 14=>75 | 28=>95 | 29=>96 | 20=>87 | 21=>88 | 22=>89 | 23=>90 | 24=>91 | 25=>92 | 26=>93 | 27=>94 | 46=>98 | 47=>99 | 48=>100 | 49=>101 | 50=>102 | 57=>103 | n=>n,fun | 22=>40 | 24=>83 | 25=>94 | 3=>3 | 39=>128 | 0=>0 | 53=>153 | 55=>43 | 4=>4 | 46=>147 | 45=>146 | 50=>139 | 5=>5 | 9=>9 | 66=>154 | 70=>158 | 76=>160 | 77=>161 | n=>n,fun | n=>n⟩
theorem x9 : Go.Proofs.SlLaysF0.n6 Tryz.prog wh:={
 mixed:=by kernel_rfl
 f6:=⟨Tryz.f46.name,by decide,Tryz.func46.trans (congrArg some (by kernel_rfl))⟩
 f14:=⟨Tryz.f75.name,by decide,Tryz.func75.trans (congrArg some (by kernel_rfl))⟩
 f15:=Tryz.func76.trans (congrArg some (by kernel_rfl))
 f20:=⟨Tryz.f87.name,by decide,Tryz.func87.trans (congrArg some (by kernel_rfl))⟩
 f21:=⟨Tryz.f88.name,by decide,Tryz.func88.trans (congrArg some (by kernel_rfl))⟩
 f22:=⟨Tryz.f89.name,by decide,Tryz.func89.trans (congrArg some (by kernel_rfl))⟩
 f23:=⟨Tryz.f90.name,by decide,Tryz.func90.trans (congrArg some (by kernel_rfl))⟩
 f24:=⟨Tryz.f91.name,by decide,Tryz.func91.trans (congrArg some (by kernel_rfl))⟩
 f25:=⟨Tryz.f92.name,by decide,Tryz.func92.trans (congrArg some (by kernel_rfl))⟩
 f26:=⟨Tryz.f93.name,by decide,Tryz.func93.trans (congrArg some (by kernel_rfl))⟩
 f27:=⟨Tryz.f94.name,by decide,Tryz.func94.trans (congrArg some (by kernel_rfl))⟩
 f28:=Tryz.func95.trans (congrArg some (by kernel_rfl))
 f29:=Tryz.func96.trans (congrArg some (by kernel_rfl))
 f46:=⟨Tryz.f98.name,by decide,Tryz.func98.trans (congrArg some (by kernel_rfl))⟩
 f47:=Tryz.func99.trans (congrArg some (by kernel_rfl))
 f48:=Tryz.func100.trans (congrArg some (by kernel_rfl))
 f49:=⟨Tryz.f101.name,by decide,Tryz.func101.trans (congrArg some (by kernel_rfl))⟩
 f50:=⟨Tryz.f102.name,by decide,Tryz.func102.trans (congrArg some (by kernel_rfl))⟩
 f57:=⟨Tryz.f103.name,by decide,Tryz.func103.trans (congrArg some (by kernel_rfl))⟩
 t0:=Tryz.underlying0
 a0:=Tryz.isAgg0
 z0:=Tryz.sizeOf0
 v0:=Tryz.zeroValue0
 t3:=Tryz.underlying3
 a3:=Tryz.isAgg3
 z3:=Tryz.sizeOf3
 v3:=Tryz.zeroValue3
 t4:=Tryz.underlying4
 a4:=Tryz.isAgg4
 z4:=Tryz.sizeOf4
 v4:=Tryz.zeroValue4
 t5:=Tryz.underlying5
 a5:=Tryz.isAgg5
 z5:=Tryz.sizeOf5
 v5:=Tryz.zeroValue5
 t9:=Tryz.underlying9
 a9:=Tryz.isAgg9
 z9:=Tryz.sizeOf9
 v9:=Tryz.zeroValue9
 t22:=Tryz.underlying40
 a22:=Tryz.isAgg40
 z22:=Tryz.sizeOf40
 v22:=Tryz.zeroValue40
 t25:=Tryz.underlying94
 a25:=Tryz.isAgg94
 z25:=Tryz.sizeOf94
 v25:=Tryz.zeroValue94
 t39:=Tryz.underlying128
 a39:=Tryz.isAgg128
 z39:=Tryz.sizeOf128
 v39:=Tryz.zeroValue128
 t45:=Tryz.underlying146
 a45:=Tryz.isAgg146
 z45:=Tryz.sizeOf146
 v45:=Tryz.zeroValue146
 t46:=Tryz.underlying147
 a46:=Tryz.isAgg147
 z46:=Tryz.sizeOf147
 v46:=Tryz.zeroValue147
 t50:=Tryz.underlying139
 a50:=Tryz.isAgg139
 z50:=Tryz.sizeOf139
 v50:=Tryz.zeroValue139
 t53:=Tryz.underlying153
 a53:=Tryz.isAgg153
 z53:=Tryz.sizeOf153
 v53:=Tryz.zeroValue153
 t55:=Tryz.underlying43
 a55:=Tryz.isAgg43
 z55:=Tryz.sizeOf43
 v55:=Tryz.zeroValue43
 t66:=Tryz.underlying154
 a66:=Tryz.isAgg154
 z66:=Tryz.sizeOf154
 v66:=Tryz.zeroValue154
 t70:=Tryz.underlying158
 a70:=Tryz.isAgg158
 z70:=Tryz.sizeOf158
 v70:=Tryz.zeroValue158
 t76:=Tryz.underlying160
 a76:=Tryz.isAgg160
 z76:=Tryz.sizeOf160
 v76:=Tryz.zeroValue160
 t77:=Tryz.underlying161
 a77:=Tryz.isAgg161
 z77:=Tryz.sizeOf161
 v77:=Tryz.zeroValue161 }
end
section
open Go Sym
open Go.Sort (grow alloc_eq_grow grow_grow putRow putCells mapBlock onCells Holds SWO PermIn SortedIn flatK putRowK HoldsK)
theorem vu (x y : Int) (w : World) : Calls Tryz.prog 78 #[Vi x,Vi y] w fun e w'=>e = .returned (Vi (cmpI x y)) ∧ w' = w:=by
 refine Sym.c8 (args:=[Vi x,Vi y]) Tryz.func78 rfl rfl rfl (fun a0 hS0=>?_);refine wp_seq (ai [(0,Vi x),(1,Vi y)] (· = w) af hS0 ?_ (fun a w1 hS hw=>?_))
 ·repeat refine zX rfl ?_
  exact aj ⟨⟨rfl,rfl,trivial⟩,rfl⟩
 subst hw;refine wp_seq (ai [(0,Vi x),(1,Vi y),(5,.bool false)] (· = w1) af hS ?_ (fun a w2 hS hw=>?_))
 ·repeat refine zX rfl ?_
  refine zF rfl (rh) (pj x w1) ?_;rintro e w2 ⟨rfl,rfl⟩;refine ⟨_,rfl,?_⟩
  repeat refine zX rfl ?_
  exact aj ⟨⟨rfl,rfl,rfl,trivial⟩,rfl⟩
 subst hw;refine wp_seq (ai [(0,Vi x),(1,Vi y),(5,.bool false),(6,.bool false)] (· = w2) af hS ?_ (fun a w3 hS hw=>?_))
 ·repeat refine zX rfl ?_
  refine zF rfl (rh) (pj y w2) ?_;rintro e w2 ⟨rfl,rfl⟩;refine ⟨_,rfl,?_⟩
  repeat refine zX rfl ?_
  exact aj ⟨⟨rfl,rfl,rfl,rfl,trivial⟩,rfl⟩
 subst hw;refine wp_seq (wp_seq (ai [(0,Vi x),(1,Vi y),(6,.bool false),(11,.bool false)] (· = w3) af hS ?_ (fun a w4 hS hw=>?_)))
 ·repeat refine zX rfl ?_
  exact aj ⟨⟨rfl,rfl,rfl,rfl,trivial⟩,rfl⟩
 subst hw;refine cond hS rfl (fun hT=>by cases hT) (fun hF=>wp_skip ?_);refine wp_seq (wp_seq (ai [(0,Vi x),(1,Vi y),(13,.bool false)] (· = w4) af hS ?_ (fun a w5 hS hw=>?_)))
 ·repeat refine zX rfl ?_
  exact aj ⟨⟨rfl,rfl,rfl,trivial⟩,rfl⟩
 subst hw;refine cond hS rfl (fun hT=>by cases hT) (fun hF=>wp_skip ?_);refine wp_seq (wp_seq (ai [(0,Vi x),(1,Vi y),(16,.bool (decide (x < y)))] (· = w5) af hS ?_ (fun a w6 hS hw=>?_)))
 ·repeat refine zX rfl ?_
  refine zC rfl (rfl) ?_
  repeat refine zX rfl ?_
  exact aj ⟨⟨rfl,rfl,rfl,trivial⟩,rfl⟩
 subst hw;refine cond hS rfl (fun hT=>?_) (fun hF=>wp_skip ?_)
 ·refine wp_seq (ai [(4,Vi (-1))] (· = w6) af hS ?_ (fun a w7 hS hw=>?_))
  ·repeat refine zX rfl ?_
   exact aj ⟨⟨rfl,trivial⟩,rfl⟩
  subst hw;refine wp_ret ?_
  repeat first|refine a8 ?_|refine am ?_
  exact ret1 hS rfl rfl ⟨by rw [cmpI,if_pos (of_decide_eq_true hT)],rfl⟩
 have h1:=of_decide_eq_false hF;refine wp_seq (wp_seq (ai [(0,Vi x),(1,Vi y),(19,.bool (decide (y < x)))] (· = w6) af hS ?_ (fun a w7 hS hw=>?_)))
 ·repeat refine zX rfl ?_
  refine zC rfl (rfl) ?_
  repeat refine zX rfl ?_
  exact aj ⟨⟨rfl,rfl,rfl,trivial⟩,rfl⟩
 subst hw;refine cond hS rfl (fun hT=>?_) (fun hF=>wp_skip ?_)
 ·refine wp_seq (ai [(4,Vi 1)] (· = w7) af hS ?_ (fun a w8 hS hw=>?_))
  ·repeat refine zX rfl ?_
   exact aj ⟨⟨rfl,trivial⟩,rfl⟩
  subst hw;refine wp_ret ?_
  repeat first|refine a8 ?_|refine am ?_
  exact ret1 hS rfl rfl ⟨by rw [cmpI,if_neg h1,if_pos (of_decide_eq_true hT)],rfl⟩
 refine wp_seq (ai [(4,Vi 0)] (· = w7) af hS ?_ (fun a w8 hS hw=>?_))
 ·repeat refine zX rfl ?_
  exact aj ⟨⟨rfl,trivial⟩,rfl⟩
 subst hw;refine wp_ret ?_
 repeat first|refine a8 ?_|refine am ?_
 exact ret1 hS rfl rfl ⟨by rw [cmpI,if_neg h1,if_neg (of_decide_eq_false hF)],rfl⟩
theorem or_eq (v : Value) (l : List Int) (w : World) (hl : Sl w v l PInt) : Calls Tryz.prog 77 #[v] w fun e w'=>e = .returned (Vi (orL l)) ∧ w' = w:=by
 refine Sym.c8 (args:=[v]) Tryz.func77 rfl rfl rfl (fun a0 hS0=>?_);obtain ⟨al,bl,ol,cl,rfl,h1,h2,h3,h4⟩:=hl;refine wp_seq (ai [(0,.slice al l.length cl)] (· = w) af hS0 ?_ (fun a w1 hS hw=>?_))
 ·repeat refine zX rfl ?_
  exact aj ⟨⟨rfl,trivial⟩,rfl⟩
 subst hw;refine wp_seq (ai [(0,.slice al l.length cl),(3,Vi 0)] (· = w1) af hS ?_ (fun a w2 hS hw=>?_))
 ·repeat refine zX rfl ?_
  exact aj ⟨⟨rfl,rfl,trivial⟩,rfl⟩
 subst hw;refine wp_seq (wp_seq (ai [(3,Vi 0),(6,.slice al l.length cl),(7,Vi l.length),(8,Vi (0 : Nat))] (· = w2) af hS ?_ (fun a w3 hS hw=>?_)))
 ·repeat refine zX rfl ?_
  exact aj ⟨⟨rfl,rfl,rfl,rfl,trivial⟩,rfl⟩
 subst hw;refine wp_block (cz hS (fun γ E w'=>∃ i : Nat,i ≤ l.length ∧ γ = l.length - i ∧ E = [(3,Vi 0),(6,.slice al l.length cl),(7,Vi l.length),(8,Vi i)] ∧ w' = w3 ∧ ∀ j (h : j < l.length),j < i → l[j] = 0) l.length ⟨0,by omega,by omega,rfl,rfl,fun j _ hj=>by omega⟩ ?_);clear hS;rintro γ E w4 a ⟨i,hi,rfl,rfl,rfl,hz⟩ hS;refine wp_seq (ai [(3,Vi 0),(6,.slice al l.length cl),(7,Vi l.length),(8,Vi i),(9,.bool (decide (i < l.length)))] (· = w4) af hS ?_ (fun a w5 hS hw=>?_))
 ·repeat refine zX rfl ?_
  refine zC rfl (co _ _) ?_
  repeat refine zX rfl ?_
  exact aj ⟨⟨rfl,rfl,rfl,rfl,rfl,trivial⟩,rfl⟩
 subst hw;refine wp_seq (cond hS rfl (fun hT=>wp_skip ?_) (fun hF=>?_))
 rotate_left
 ·have hii : i = l.length:=by have:=of_decide_eq_false hF; omega
  refine wp_exit ?_
  repeat first|refine bf ?_|refine ba ?_|refine az rfl ?_
  refine wp_seq (ai [(2,Vi 0)] (· = w5) af hS ?_ (fun a w6 hS hw=>?_))
  ·repeat refine zX rfl ?_
   exact aj ⟨⟨rfl,trivial⟩,rfl⟩
  subst hw;refine wp_ret ?_
  repeat first|refine a8 ?_|refine am ?_
  exact ret1 hS rfl rfl ⟨by rw [pd i l hz,List.drop_eq_nil_of_le (by omega)]; rfl,rfl⟩
 have hii : i < l.length:=of_decide_eq_true hT;obtain rfl:=h1 (by omega);obtain ⟨y,hy,rfl,-⟩:=h4 i hii
 have hor : orL l = if l[i] ≠ 0 then l[i] else orL (l.drop (i + 1)):=by
  rw [pd i l hz,List.drop_eq_getElem_cons hii]; rfl
 refine wp_seq (wp_block (wp_seq (ai [(3,Vi 0),(6,.slice (some ⟨bl,ol,none⟩) l.length cl),(7,Vi l.length),(8,Vi i),(5,Vi l[i])] (· = w5) af hS ?_ (fun a w6 hS hw=>?_))))
 ·repeat refine zX rfl ?_
  refine zI rfl (rfl) (hii) ?_;refine zL rfl (hy) ?_
  repeat refine zX rfl ?_
  exact aj ⟨⟨rfl,rfl,rfl,rfl,rfl,trivial⟩,rfl⟩
 subst hw;refine wp_seq (ai [(3,Vi 0),(6,.slice (some ⟨bl,ol,none⟩) l.length cl),(7,Vi l.length),(8,Vi i),(5,Vi l[i]),(14,.bool (decide (l[i] ≠ 0)))] (· = w6) af hS ?_ (fun a w7 hS hw=>?_))
 ·repeat refine zX rfl ?_
  refine zC rfl (rfl) ?_
  repeat refine zX rfl ?_
  exact aj ⟨⟨rfl,rfl,rfl,rfl,rfl,rfl,trivial⟩,rfl⟩
 subst hw;refine cond hS rfl (fun hT2=>?_) (fun hF2=>wp_skip ?_)
 ·refine wp_seq (ai [(2,Vi l[i])] (· = w7) af hS ?_ (fun a w8 hS hw=>?_))
  ·repeat refine zX rfl ?_
   exact aj ⟨⟨rfl,trivial⟩,rfl⟩
  subst hw;refine wp_ret ?_
  repeat first|refine a8 ?_|refine am ?_
  exact ret1 hS rfl rfl ⟨by rw [hor,if_pos (of_decide_eq_true hT2)],rfl⟩
 have h0:=Decidable.not_not.1 (of_decide_eq_false hF2);refine ay ?_;refine ai [(3,Vi 0),(6,.slice (some ⟨bl,ol,none⟩) l.length cl),(7,Vi l.length),(8,Vi (i + 1 : Nat))] (· = w7) af hS ?_ (fun a w8 hS hw=>?_)
 ·repeat refine zX rfl ?_
  refine zN rfl (bm i 1 (by omega)) ?_
  repeat refine zX rfl ?_
  exact aj ⟨⟨rfl,rfl,rfl,rfl,trivial⟩,rfl⟩
 subst hw;refine ⟨l.length - (i + 1),_,by omega,⟨i + 1,by omega,rfl,rfl,rfl,fun j hj hji=>?_⟩,hS⟩
 rcases Nat.lt_or_ge j i with h | h
 ·exact hz j hj h
 ·obtain rfl : j = i:=by omega
  exact h0
set_option maxHeartbeats 2000000 in
theorem abd (p q c d : Int) (w : World) : Calls Tryz.prog 47 #[.agg #[Vi p,Vi q],.agg #[Vi c,Vi d]] w fun e w'=>e = .returned (Vi (ordP p q c d)) ∧ ∃ k os',w' = grow (w.drewN k) os':=by
 refine Sym.c8 (args:=[.agg #[Vi p,Vi q],.agg #[Vi c,Vi d]]) Tryz.func47 rfl rfl rfl (fun a0 hS0=>?_);obtain ⟨B,hBB⟩ : ∃ B,B = w.heap.size:=⟨_,rfl⟩;refine wp_seq (ai [(2,Vp B),(3,Vp (B + 1))] (· = (w.alloc (.cells #[Vi p,Vi q] 83)).alloc (.cells #[Vi c,Vi d] 83)) af hS0 ?_ (fun a w1 hS hw=>?_))
 ·subst hBB;refine zB rfl ?_;refine zB rfl ?_;rw [b5]
  repeat refine zX rfl ?_
  exact aj ⟨⟨rfl,rfl,trivial⟩,rfl⟩
 obtain ⟨-,hx,hz⟩:=qc hw;rw [← hBB] at hx hz;refine wp_seq (d5 13 [(4,Vi (ordP p q c d))] (fun w'=>∃ k os',w' = grow (w1.drewN k) os') dc hS ?_ (fun a w2 hS hw2=>?_))
 ·have hy : RowKit.Below w1.drew.heap.size w1.drew w1.drew:=RowKit.Below.refl _ _;refine yT 0 af rfl (by kernel_rfl) hy rfl (rfl) ?_;refine yL 1 af rfl (by kernel_rfl) hy rfl rfl (hx.c0) ?_;refine yT 2 af rfl (by kernel_rfl) hy rfl (rfl) ?_;refine yL 3 af rfl (by kernel_rfl) hy rfl rfl (hz.c0) ?_;refine yT 5 af rfl (by kernel_rfl) hy rfl (rfl) ?_;refine yL 6 af rfl (by kernel_rfl) hy rfl rfl (hx.c1) ?_;refine yT 7 af rfl (by kernel_rfl) hy rfl (rfl) ?_;refine yL 8 af rfl (by kernel_rfl) hy rfl rfl (hz.c1) ?_;refine bo 4 (by kernel_rfl) (y_op 4 af rfl rfl rfl rfl ?_);refine anI m6 ((vu p c _).mono ?_);rintro e w2 ⟨rfl,rfl⟩;refine ⟨_,rfl,?_⟩;refine anI (.inr hy) ?_;refine bo 9 (by kernel_rfl) (y_op 9 af rfl rfl rfl rfl ?_);refine anI m6 ((vu q d _).mono ?_);rintro e w3 ⟨rfl,rfl⟩;refine ⟨_,rfl,?_⟩;refine anI (.inr hy) ?_;refine bo 10 (by kernel_rfl) (y_op 10 af rfl rfl rfl rfl ?_);refine exI [(0,Vi (cmpI p c)),(1,Vi (cmpI q d))] (exI _ (anI (anI rfl rfl) (anI (by decide) (anI (acg ..) ?_))));have hy3:=hy.alloc hy.size (.cells #[Vi (cmpI p c),Vi (cmpI q d)] 3);refine anI (.inr hy3) ?_
  have hs : Sl _ (Vs w1.drew.heap.size 2 2) [cmpI p c,cmpI q d] PInt:=qw w1.drew [cmpI p c,cmpI q d] 2 rfl (by
   intro x hx;simp only [List.mem_cons,List.not_mem_nil,or_false] at hx
   rcases hx with rfl | rfl <;> exact ahg _ _) (by simp)
  refine bo 11 (by kernel_rfl) (y_op 11 af rfl rfl rfl rfl ?_);refine anI en_Or ((or_eq _ _ _ hs).mono ?_);rintro e w4 ⟨rfl,rfl⟩;refine ⟨_,rfl,?_⟩;refine anI (.inr hy3) ?_;refine yT 12 af rfl (by kernel_rfl) hy3 rfl (rfl) ?_;exact iq (by kernel_rfl) ⟨rfl,trivial⟩ ⟨1,_,by rw [alloc_eq_grow]; rfl⟩
 obtain ⟨k,os',hw2⟩:=hw2;refine wp_ret ?_
 repeat first|refine a8 ?_|refine am ?_
 exact ret1 hS rfl rfl ⟨rfl,k,_,by rw [hw2,hw,alloc_eq_grow,alloc_eq_grow,grow_grow]; exact grow_grow (w.drewN k) _ os'⟩
theorem aa6 : bk Tryz.prog 46 = true:=by kernel_rfl
def encP (x : Int × Int) : List Value:=[Vi x.1,Vi x.2]
theorem u9 (l : List (Int × Int)) : (flatK encP 2 l.toArray).toList = d6 l:=by
 refine List.ext_getElem (by simp [flatK,pc]) fun t h1 h2=>?_;have ht : t < l.length * 2:=by rw [pc] at h2; exact h2
 have hi : t / 2 < l.length:=by omega
 obtain ⟨g1,g2⟩:=ku l (t / 2) hi
 have e : (flatK encP 2 l.toArray).toList[t] = (encP l[t / 2])[t % 2]!:=by
  simp [flatK,hi]
 rw [e]
 rcases (show t % 2 = 0 ∨ t % 2 = 1 by omega) with h | h
 ·rw [h];rw [show t / 2 * 2 = t by omega] at g1;exact (List.getElem?_eq_some_iff.1 g1).2.symm
 ·rw [h];rw [show t / 2 * 2 + 1 = t by omega] at g2;exact (List.getElem?_eq_some_iff.1 g2).2.symm
theorem lq (x y : Int × Int) : ltOf (fun x y : Int × Int=>ordP x.1 x.2 y.1 y.2) x y = true ↔ befP x y:=by
 have:=aam x.1 x.2 y.1 y.2
 unfold ltOf befP;rw [decide_eq_true_eq];dsimp only;omega
theorem swoP : SWO (ltOf fun x y : Int × Int=>ordP x.1 x.2 y.1 y.2) where
 irrefl x:=Bool.eq_false_iff.2 fun h=>((lq x x).1 h).irrefl
 trans x y z h1 h2:=(lq x z).2 (((lq x y).1 h1).trans ((lq y z).1 h2))
 ntrans x y z h1 h2:=Bool.eq_false_iff.2 fun h=>by
  have h1 : ¬ befP x y:=fun k=>Bool.eq_false_iff.1 h1 ((lq x y).2 k);have h2 : ¬ befP y z:=fun k=>Bool.eq_false_iff.1 h2 ((lq y z).2 k);have h3:=(lq x z).1 h;unfold befP at h1 h2 h3;omega
theorem ajw (blk off size : Nat) (w : World) : CmpLays Tryz.prog 47 #[] encP 2 (fun x y=>ordP x.1 x.2 y.1 y.2) blk off size w:=
 fun _ _ _ _ x y=>abd x.1 x.2 y.1 y.2 _
theorem ab1 : ∃ e,e = (⟨83,.struct [(0,3),(1,3)],2,16,.agg #[Vi 0,Vi 0]⟩ : TI) ∧ Tab.get tab 83 = some e:=⟨_,rfl,rfl⟩
theorem aj1 (w : World) : (isAgg 83).run Tryz.prog w = .ok true w:=by
 obtain ⟨e,he,hg⟩:=ab1;obtain ⟨h1,hok⟩:=Tab.get_ok af hg
 have:=jr hok w
 rw [he] at this;exact this
theorem ae5 (w : World) : (Go.sizeOf 83).run Tryz.prog w = .ok 2 w:=by
 obtain ⟨e,he,hg⟩:=ab1;obtain ⟨h1,hok⟩:=Tab.get_ok af hg
 have:=dz hok w
 rw [he] at this;exact this
theorem adg {base e g n c m : Nat} {w : World} {xs : List Value} (hown : w.ownsRow base e 2 (Vs g n c) n xs) {F : Array Value} (hF : F.size = n * 2) (os : Array Obj) :
  w.grownBy (grow (putRow id (Go.Sort.ahead w m) g 0 F) os) (some g) ∧ (grow (putRow id (Go.Sort.ahead w m) g 0 F) os).ownsRow base e 2 (Vs g n c) n F.toList:=by
 have hsz : (putRow id (Go.Sort.ahead w m) g 0 F).heap.size = w.heap.size:=by simp [putRow,mapBlock,Go.Sort.ahead]
 rcases hown.2 with ⟨h',_⟩ | ⟨g',cap',cur,h',hb,hg,hnc,hcm,hcs,htake⟩
 ·cases h'
 ·simp only [Value.slice.injEq,Option.some.injEq,Addr.mk.injEq,and_true,true_and] at h';obtain ⟨rfl,rfl⟩:=h';have hlt : g < w.heap.size:=(Array.getElem?_eq_some_iff.1 hg).1;refine ⟨⟨rfl,rfl,rfl,by simp [grow,putRow,mapBlock,Go.Sort.ahead],fun k hk hne=>?_⟩,by rw [Array.length_toList,hF],.inr ⟨g,c,putCells id 0 F cur,rfl,hb,?_,hnc,hcm,by simp [putCells,hcs],?_⟩⟩
  ·have hne' : ¬ g = k:=fun e=>hne (by rw [e]);show ((w.heap.modify g (onCells (putCells id 0 F))) ++ os)[k]? = _;rw [Array.getElem?_append_left (by simpa using hk),Array.getElem?_modify,if_neg hne']
  ·show ((w.heap.modify g (onCells (putCells id 0 F))) ++ os)[g]? = _;rw [Array.getElem?_append_left (by simpa using hlt),Array.getElem?_modify,if_pos rfl,hg];rfl
  ·have hle : n * 2 ≤ cur.size:=by rw [hcs]; exact Nat.mul_le_mul_right 2 hnc
   refine List.ext_getElem (by simp [putCells,hF]; omega) fun j h1 h2=>?_;have hj : j < F.size:=by simpa using h2
   simp [putCells,hj]
theorem ac2 {base i : Nat} {w0 w : World} {l : List Ow} {v : Value} {xs : List (Int × Int)} (h : Hold base w0 w l) (hi : l[i]? = some (oP v xs)) (hlen : xs.length ≤ 1000000000) :
  Calls Tryz.prog 46 #[v,.func (.func 47) #[] #[]] w fun e w'=>e = .returned (.tuple #[]) ∧ ∃ ys,ys.Perm xs ∧ ys.Pairwise (fun x y=>¬ befP y x) ∧ Hold base w0 w' (l.set i (oP v ys)):=by
 have hown:=h.r.1 i _ hi
 rcases Nat.eq_zero_or_pos xs.length with h0 | h0
 ·obtain rfl:=List.length_eq_zero_iff.1 h0;obtain ⟨g,c,rfl,-⟩:=h.r.any hi;refine (AnyF.slices_SortFunc_none x9 g c _ w).mono ?_;rintro e w' ⟨rfl,rfl⟩;refine ⟨rfl,[],.refl _,.nil,?_⟩;obtain ⟨hil,hie⟩:=List.getElem?_eq_some_iff.1 hi;refine h.cast ?_;rw [← hie];exact (List.set_getElem_self hil).symm
 ·obtain ⟨g,c,rfl,hc,-⟩:=h.r.nilOr hi h0;have eg : ∀ args w,(callFunc 47 args).run Tryz.prog w = .ok (.enter 47 args) w:=enters_of Tryz.func47 (by kernel_rfl) rfl;have hsz : xs.toArray.size = xs.length:=by simp
  have hlt:=(hown.lt g rfl).2
  have hH : HoldsK encP 2 w g 0 xs.toArray:=fun j hj=>by
   have hj' : j < xs.length * 2:=by simpa [hsz] using hj
   rw [Nat.zero_add];refine ⟨?_,hown.frozenAt j⟩;rw [World.ownsRow.cellAt hown j (by simpa using hj')];show (d6 xs)[j]? = _;rw [← u9];have hj2 : j < (flatK encP 2 xs.toArray).size:=hj;rw [getElem!_pos (flatK encP 2 xs.toArray) j hj2,Array.getElem?_toList,Array.getElem?_eq_getElem hj2];rfl
  have hcon:=AnyQ.slices_SortFunc x9 2 aj1 ae5 encP (fun _=>rfl) (fun x v hv=>by simp [encP] at hv; rcases hv with rfl | rfl <;> rfl) (fun x y=>ordP x.1 x.2 y.1 y.2) swoP 47 #[] g 0 c xs.toArray w eg (ajw g 0 xs.toArray.size w) hH hlt (by omega)
  rw [hsz] at hcon;refine (show Calls Tryz.prog 46 #[Vs g xs.length c,.func (.func 47) #[] #[]] w _ from hcon).mono ?_
  rintro e w' ⟨rfl,d',n,os,hp,hs,rfl⟩;obtain ⟨p1,-,p3⟩:=hp;have hds : d'.size = xs.length:=by rw [p1,hsz]
  have hperm : d'.toList.Perm xs:=by
   have e1 : d'.extract 0 xs.length = d':=by rw [← hds]; simp
   have e2 : xs.toArray.extract 0 xs.length = xs.toArray:=by rw [← hsz]; simp
   rw [e1,e2] at p3
   simpa using p3
  obtain ⟨g1,g2⟩:=adg (m:=n) (F:=flatK encP 2 d') hown (by simp [flatK,hds]) os;have hfl : (flatK encP 2 d').toList = d6 d'.toList:=by rw [← u9]
  rw [hfl] at g2;refine ⟨rfl,d'.toList,hperm,?_,?_⟩
  ·refine List.pairwise_iff_getElem.2 fun a b ha hb hab hbef=>?_;have ha' : a < d'.size:=by simpa using ha
   have hb' : b < d'.size:=by simpa using hb
   have:=hs a b (Nat.zero_le _) hab (by omega)
   rw [getElem!_pos d' a ha',getElem!_pos d' b hb'] at this;exact Bool.eq_false_iff.1 this ((lq _ _).2 (by simpa using hbef))
  ·have hl2 : d'.toList.length = xs.length:=by simp [hds]
   have e : (⟨Vs g xs.length c,83,2,xs.length,d6 d'.toList⟩ : Ow) = oP (Vs g xs.length c) d'.toList:=by rw [oP,hl2]
   rw [← e];exact ⟨h.r.turn hi g1 g2 (.inl rfl),h.r.low hi h.b h.s g1,Nat.le_trans h.s g1.size⟩
end
section
open Go Sym
set_option maxHeartbeats 1000000 in
theorem aah {b1 b2 : Nat} (L1 s1 L2 s2 p q l : Int) (vn1 ve1 vn2 ve2 : Value) (n1 n2 : List (List Int)) (w : World) (hx : Box w b1 L1 s1 vn1 ve1) (hz : Box w b2 L2 s2 vn2 ve2) (hn1 : Sl w vn1 n1 PRow) (hn2 : Sl w vn2 n2 PRow) (h1 : p < n1.length) (h2 : q < n2.length) (h3 : 0 ≤ p → 0 ≤ l ∧ l < (n1.getD p.toNat []).length) (h4 : 0 ≤ q → 0 ≤ l ∧ l < (n2.getD q.toNat []).length) :
  Calls Tryz.prog 42 #[.agg #[Vi p,Vi q],Vi l,Vp b1,Vp b2] w fun e w'=>e = .returned (.agg #[Vi (dd n1 p l),Vi (dd n2 q l)]) ∧ RowKit.Below w.heap.size w w':=by
 refine Sym.c8 (args:=[.agg #[Vi p,Vi q],Vi l,Vp b1,Vp b2]) Tryz.func42 rfl rfl rfl (fun a0 hS0=>?_);obtain ⟨B,hBB⟩ : ∃ B,B = w.heap.size:=⟨_,rfl⟩;refine wp_seq (ai [(1,Vi l),(2,Vp b1),(3,Vp b2),(4,Vp B),(6,Vp (B + 1))] (· = (w.alloc (.cells #[Vi p,Vi q] 83)).alloc (.cells #[Vi 0,Vi 0] 83)) af hS0 ?_ (fun a wc hS hw=>?_))
 ·subst hBB;refine zB rfl ?_
  repeat refine zX rfl ?_
  refine zB rfl ?_;rw [b5]
  repeat refine zX rfl ?_
  exact aj ⟨⟨rfl,rfl,rfl,rfl,rfl,trivial⟩,rfl⟩
 obtain ⟨hB,hp,-⟩:=qc hw
 have ho : OwnB wc (w.heap.size + 1) 83 [Vi 0,Vi 0]:=by
  have:=OwnB.new (w.alloc (.cells #[Vi p,Vi q] 83)) [Vi 0,Vi 0] 83
  rw [b5] at this;rw [hw]; exact this
 rw [← hBB] at hp ho;clear hw;replace hx:=hx.keep hB;replace hz:=hz.keep hB;replace hn1:=hn1.keep hB (fun _ _ h=>PRow.keep hB h);replace hn2:=hn2.keep hB (fun _ _ h=>PRow.keep hB h);refine wp_seq (ai [(6,Vp (B + 1))] (fun w'=>OwnB w' (B + 1) 83 [Vi (dd n1 p l),Vi (dd n2 q l)] ∧ RowKit.Below w.heap.size w w') af hS ?_ (fun a w2 hS hw=>?_))
 ·refine zA ([Vi L1,Vi s1,vn1,ve1]) rfl rfl (hx.cells) ?_;refine zA ([Vi L2,Vi s2,vn2,ve2]) rfl rfl (hz.cells) ?_;refine zA ([Vi p,Vi q]) rfl rfl (hp.cells) ?_
  repeat refine zX rfl ?_
  refine zF rfl (nm) (l9 L1 s1 L2 s2 p q l vn1 ve1 vn2 ve2 n1 n2 wc hn1 hn2 h1 h2 h3 h4) ?_;rintro e w3 ⟨rfl,k1⟩;refine ⟨_,rfl,?_⟩;have ho2:=ho.keep k1 ho.lt;obtain ⟨h5,h6⟩:=wm ho2 (ak hB k1) (by omega) (Vi (dd n1 p l)) (Vi (dd n2 q l));refine cj rfl rfl (anI rfl (anI rfl (anI (fj ho2) ?_)));exact aj ⟨⟨rfl,trivial⟩,h5,h6⟩
 obtain ⟨h5,h6⟩:=hw;refine wp_ret ?_
 repeat first|refine a8 ?_|refine am ?_
 exact wl af hS rfl rfl rfl rfl (o:=0) (vs:=[Vi (dd n1 p l),Vi (dd n2 q l)]) ⟨h5.cell (i:=0) rfl,h5.cell (i:=1) rfl,trivial⟩ rfl ⟨rfl,h6⟩
theorem ya {L s : Int} {nn : List (List Int)} {ff : List Bool} {x : Int} {c : Nat} (hs : Shape L s nn ff) (hx2 : x < nn.length) (hc : (c : Int) < L) : 0 ≤ x → (0 : Int) ≤ (c : Int) ∧ ((c : Int) < (nn.getD x.toNat []).length):=fun h0=>by
 obtain ⟨y,rfl⟩ : ∃ y : Nat,x = y:=⟨x.toNat,by omega⟩;have hy : y < nn.length:=by omega
 obtain ⟨g1,g2⟩:=hs.rows y hy;have e1 : nn.getD y [] = nn[y]:=by simp [List.getD_eq_getElem?_getD,hy]
 rw [Int.toNat_natCast,e1];omega
theorem ae3 (w : World) : SlP w (.slice none 0 0) []:=⟨none,0,0,0,rfl,by simp,by simp,by omega,fun i hi=>by simp at hi⟩
set_option maxHeartbeats 4000000 in
theorem ahw : ahz 14:=fun L1 s1 L2 s2 vn1 ve1 vn2 ve2 n1 n2 f1 f2 w hm hm2 hl1 hl2=>by
 refine Sym.c8 (args:=[.agg #[Vi L1,Vi s1,vn1,ve1],.agg #[Vi L2,Vi s2,vn2,ve2]]) Tryz.func14 rfl rfl rfl (fun a0 hS0=>?_);obtain ⟨B,hBB⟩ : ∃ B,B = w.heap.size:=⟨_,rfl⟩;refine wp_seq (ai [(2,Vp B),(3,Vp (B + 1))] (· = (w.alloc (.cells #[Vi L1,Vi s1,vn1,ve1] 25)).alloc (.cells #[Vi L2,Vi s2,vn2,ve2] 25)) af hS0 ?_ (fun a wc hS hw=>?_))
 ·subst hBB;refine zB rfl ?_;refine zB rfl ?_;rw [b5]
  repeat refine zX rfl ?_
  exact aj ⟨⟨rfl,rfl,trivial⟩,rfl⟩
 obtain ⟨hB,hx,hz⟩:=lc hw;rw [← hBB] at hx hz;clear hw;replace hm:=hm.keep hB;replace hm2:=hm2.keep hB;obtain ⟨z,hz'⟩ : ∃ z,z = twoM L1 s1 n1 f1 L2 s2 n2 f2:=⟨_,rfl⟩;refine wp_seq (wp_seq (ai [(2,Vp B),(3,Vp (B + 1)),(6,Vi z)] (fun w'=>RowKit.Below wc.heap.size wc w') af hS ?_ (fun a w2 hS hw=>?_)))
 ·refine zA ([Vi L1,Vi s1,vn1,ve1]) rfl rfl (hx.cells) ?_;refine zA ([Vi L2,Vi s2,vn2,ve2]) rfl rfl (hz.cells) ?_;refine zF rfl (aa5) (xx L1 s1 L2 s2 vn1 ve1 vn2 ve2 n1 n2 f1 f2 wc hm hm2) ?_;rintro e w1 ⟨rfl,h1⟩;refine ⟨_,rfl,?_⟩;subst hz'
  repeat refine zX rfl ?_
  exact aj ⟨⟨rfl,rfl,rfl,trivial⟩,h1⟩
 replace hB:=ak hB hw;replace hx:=hx.keep hw;replace hz:=hz.keep hw;replace hm:=hm.keep hw;replace hm2:=hm2.keep hw;clear hw;refine wp_seq (ai [(2,Vp B),(3,Vp (B + 1)),(6,Vi z),(15,.bool (decide (z ≠ 0)))] (· = w2) af hS ?_ (fun a w3 hS hw=>?_))
 ·repeat refine zX rfl ?_
  refine zC rfl (rfl) ?_
  repeat refine zX rfl ?_
  exact aj ⟨⟨rfl,rfl,rfl,rfl,trivial⟩,rfl⟩
 subst hw;refine cond hS rfl (fun hT=>?_) (fun hF=>wp_skip ?_)
 ·refine wp_seq (ai [(4,.slice none 0 0),(5,Vi z)] (· = w3) af hS ?_ (fun a w4 hS hw=>?_))
  ·repeat refine zX rfl ?_
   exact aj ⟨⟨rfl,rfl,trivial⟩,rfl⟩
  subst hw;refine wp_ret ?_
  repeat first|refine a8 ?_|refine am ?_
  exact ret2 hS rfl rfl rfl ⟨_,[],z,rfl,ae3 _,hB,.inl ⟨by rw [← hz']; exact of_decide_eq_true hT,hz',rfl⟩⟩
 have hz0 : z = 0:=Decidable.not_not.1 (of_decide_eq_false hF);have htw : twoM L1 s1 n1 f1 L2 s2 n2 f2 = 0:=hz'.symm.trans hz0;obtain ⟨hv1,hv2,rfl⟩:=wa htw;obtain ⟨hs1,hL1,hn1⟩:=db hv1;obtain ⟨hs2,hL2,hn2⟩:=db hv2;refine wp_seq (wp_seq (bg (α:=Bool) (fun b=>[(2,Vp B),(3,Vp (B + 1)),(20,.bool (!b))]) (fun b w'=>(b = true ↔ dq L1.toNat n1 f1 s1 n2 f2 s2) ∧ RowKit.Below w3.heap.size w3 w') af hS ?_ (fun b a w4 hS hw=>?_)))
 ·refine zA ([Vi L1,Vi s1,vn1,ve1]) rfl rfl (hx.cells) ?_;refine zA ([Vi L1,Vi s2,vn2,ve2]) rfl rfl (hz.cells) ?_;refine zF rfl (ajn) (ahr L1 s1 s2 vn1 ve1 vn2 ve2 n1 n2 f1 f2 w3 hm hm2 hs1 hs2 hL1 hn1 hn2) ?_;rintro e w1 ⟨b,rfl,hb,h1⟩;refine ⟨_,rfl,?_⟩
  repeat refine zX rfl ?_
  exact aj ⟨b,⟨rfl,rfl,rfl,trivial⟩,hb,h1⟩
 obtain ⟨hb,hw⟩:=hw;replace hB:=ak hB hw;replace hx:=hx.keep hw;replace hz:=hz.keep hw;replace hm:=hm.keep hw;replace hm2:=hm2.keep hw;clear hw;refine cond hS rfl (fun hT=>?_) (fun hF2=>wp_skip ?_)
 ·refine wp_seq (ai [(4,.slice none 0 0),(5,Vi 8)] (· = w4) af hS ?_ (fun a w5 hS hw=>?_))
  ·repeat refine zX rfl ?_
   exact aj ⟨⟨rfl,rfl,trivial⟩,rfl⟩
  subst hw;have hbf : b = false:=by simpa using hT
  refine wp_ret ?_
  repeat first|refine a8 ?_|refine am ?_
  exact ret2 hS rfl rfl rfl ⟨_,[],8,rfl,ae3 _,hB,.inr (.inl ⟨htw,fun h=>(by rw [hb.2 h] at hbf; cases hbf),rfl,rfl⟩)⟩
 have hal : dq L1.toNat n1 f1 s1 n2 f2 s2:=hb.1 (by simpa using hF2);obtain ⟨Ln,rfl⟩ : ∃ n : Nat,L1 = n:=⟨L1.toNat,by have:=hs1.L0; omega⟩;rw [Int.toNat_natCast] at hal;obtain ⟨W,hW⟩ : ∃ W,W = n2.length + 1:=⟨_,rfl⟩;obtain ⟨n,hn⟩ : ∃ n,n = (n1.length + 1) * W:=⟨_,rfl⟩;have hPI : PairsI Ln W n s1 n1 f1 s2 n2 f2:=⟨hs1,hs2,hW,hn,by omega,by omega⟩;have hnle : n ≤ 101 * 101:=by rw [hn]; exact Nat.mul_le_mul (by omega) (by omega)
 have hs : inR W n (s1,s2):=hPI.mk' hs1.s1 hs1.s2 hs2.s1 hs2.s2;refine wp_seq (bg (α:=Nat) (fun fb=>[(2,Vp B),(3,Vp (B + 1)),(7,Vp fb)]) (fun fb w'=>md w4.heap.size w4 w' fb W n (FS.none n) []) af hS ?_ (fun fb a w5 hS h=>?_))
 ·refine zF rfl (od) (l7 w4) ?_;rintro e w5 ⟨rfl,k1⟩;refine ⟨_,rfl,?_⟩;refine zF rfl (xh) (uf ((Hold.start w4).below k1) W n) ?_;rintro e w6 ⟨fb,rfl,k2⟩;refine ⟨_,rfl,?_⟩
  repeat refine zX rfl ?_
  exact aj ⟨fb,⟨rfl,rfl,rfl,trivial⟩,k2⟩
 have K:=fun w' (h : RowKit.Below w4.heap.size w4 w')=>anI (hx.keep h) (anI (hz.keep h) (anI (hm.keep h) (hm2.keep h)));refine wp_seq (ai [(2,Vp B),(3,Vp (B + 1)),(7,Vp fb),(8,.func (.func 42) #[] #[Vp B,Vp (B + 1)])] (· = w5) af hS ?_ (fun a w6 hS hw=>?_))
 ·repeat refine zX rfl ?_
  exact aj ⟨⟨rfl,rfl,rfl,rfl,trivial⟩,rfl⟩
 subst hw;obtain ⟨F,hF3⟩ : ∃ F,d7 (cdP W (s1,s2)) (relN Ln W n n1 n2) Ln = F:=⟨_,rfl⟩;have hs0:=zd hs
 have hFo : Found (cdP W (s1,s2)) (relN Ln W n n1 n2) Ln F:=by
  rw [← hF3];exact io hPI.shape hs0.1 (by rw [PairsI.len]; exact hs0.2)
 have hr : ∀ r : Int,0 ≤ r → r < n → ∀ c,c < Ln → -1 ≤ tgtM (relN Ln W n n1 n2) r c ∧ tgtM (relN Ln W n n1 n2) r c < n:=fun r h1 h2 c hc=>by
  have:=dm hPI.shape r h1 (by rw [PairsI.len]; exact h2) c (by rw [Int.toNat_natCast]; exact hc)
  rwa [PairsI.len] at this
 refine wp_seq (wp_seq (d5 7 [(7,Vp fb),(10,.bool true)] (fun w'=>∃ (mb : Nat) (vf : Value) (xs : List (Int × Int)) (rest : List Ow),Hold w4.heap.size w4 w' (g7 93 fb [Vi (-1),Vi (-1)] mb vf :: oP vf xs :: rest) ∧ F.rows = xs.map (fun x=>(plc W x.1 x.2 : Int)) ∧ (∀ x ∈ xs,inR W n x)) dc hS ?_ (fun a w7 hS h=>?_)))
 ·have hwB : RowKit.Below w4.heap.size w4 w6:=by
   obtain ⟨mb,vf,xs,h,-⟩:=h;exact h.b
  obtain ⟨hx,hz,hm,hm2⟩:=K _ hwB;have hy : RowKit.Below w6.drew.heap.size w6.drew w6.drew:=RowKit.Below.refl _ _;have hd : RowKit.Below w6.heap.size w6 w6.drew:=(RowKit.Below.refl _ _).drew;refine yT 0 af rfl (by kernel_rfl) hy rfl (rfl) ?_;refine yT 1 af rfl (by kernel_rfl) hy rfl (exI ([Vi Ln,Vi s1,vn1,ve1]) (anI rfl (anI (hx.cells) rfl))) ?_;refine yT 2 af rfl (by kernel_rfl) hy rfl (exI ([Vi Ln,Vi s2,vn2,ve2]) (anI rfl (anI (hz.cells) rfl))) ?_;refine yT 4 af rfl (by kernel_rfl) hy rfl (rfl) ?_;refine yL 5 af rfl (by kernel_rfl) hy rfl rfl (hx.c0) ?_;refine yT 6 af rfl (by kernel_rfl) hy rfl (rfl) ?_;refine bo 3 (by kernel_rfl) (y_op 3 af rfl rfl rfl rfl ?_);refine anI vo ((tp (Ln : Int) s1 (Ln : Int) s2 vn1 ve1 vn2 ve2 _).mono ?_);rintro e w7 ⟨rfl,k1⟩;refine ⟨_,rfl,?_⟩;refine anI (.inr k1) ?_;have h7:=(h.below hd).below k1;refine bo 7 (by kernel_rfl) (y_op 7 af rfl rfl rfl rfl ?_)
  have hsr:=aac (x0:=(s1,s2)) (L:=Ln) (lim:=20000) (S:=42) (caps:=#[Vp B,Vp (B + 1)]) (next:=relN Ln W n n1 n2) (F:=F) h7 (by omega) PairsI.len hs (by omega) (by omega) (by omega) hr ad0
   (fun y c w8 hyr hc hw8=>by
    obtain ⟨hx8,hz8,hm8,hm28⟩:=K _ hw8.b;obtain ⟨r1,r2⟩:=hPI.rng hyr;exact (aah (Ln : Int) s1 (Ln : Int) s2 y.1 y.2 (c : Int) vn1 ve1 vn2 ve2 n1 n2 w8 hx8 hz8 hm8.n hm28.n r1 r2 (ya hs1 r1 (by omega)) (ya hs2 r2 (by omega))).mono (fun e w9 h9=>⟨np n1 n2 y c,hPI.stepR hyr hc,h9.1,hPI.tgt hyr hc,h9.2⟩)) hF3
  refine anI ady (hsr.mono ?_);rintro e w8 ⟨vn,vs,rfl,-,-,mb,vf,xs,h8,hrs,-,-,hin⟩;refine ⟨_,rfl,?_⟩;refine anI (.inl (by kernel_rfl)) ?_;refine yG 8 af rfl (by kernel_rfl) (.inl (by kernel_rfl)) rfl rfl ?_;refine yG 9 af rfl (by kernel_rfl) (.inl (by kernel_rfl)) rfl rfl ?_;refine yG 10 af rfl (by kernel_rfl) (.inl (by kernel_rfl)) rfl rfl ?_;refine yG 11 af rfl (by kernel_rfl) (.inl (by kernel_rfl)) rfl rfl ?_;refine yG 12 af rfl (by kernel_rfl) (.inl (by kernel_rfl)) rfl rfl ?_;exact iq (by kernel_rfl) ⟨rfl,rfl,trivial⟩ ⟨mb,vf,xs,_,h8,hrs,hin⟩
 obtain ⟨mb,vf,xs,rest,h,hrs,hin⟩:=h;have hcap:=hFo.inn.ok.cap;rw [PairsI.len] at hcap;have hxl : F.rows.length = xs.length:=by rw [hrs,List.length_map]
 refine wp_seq (ai [(7,Vp fb),(36,.bool false)] (· = w7) af hS ?_ (fun a w8 hS hw=>?_))
 ·repeat refine zX rfl ?_
  exact aj ⟨⟨rfl,rfl,trivial⟩,rfl⟩
 subst hw;refine cond hS rfl (fun hT=>by cases hT) (fun _=>wp_skip ?_);refine wp_seq (bg (α:=List (Int × Int)) (fun _=>[(7,Vp fb)]) (fun ys w'=>ys.Perm xs ∧ ys.Pairwise (fun x y=>¬ befP y x) ∧ Hold w4.heap.size w4 w' (g7 93 fb [Vi (-1),Vi (-1)] mb vf :: oP vf ys :: rest)) af hS ?_ (fun ys a w9 hS hw=>?_))
 ·obtain ⟨gf,nf,cf,rfl⟩ : ∃ g n c,vf = .slice g n c:=by
   obtain ⟨g,c,e,-⟩:=h.r.any (i:=1) rfl;exact ⟨_,_,_,e⟩
  repeat refine zX rfl ?_
  refine zL rfl (h.r.xcell (i:=0) rfl (j:=3) rfl) ?_;refine zF rfl (aa6) (ac2 h (i:=1) rfl (by omega)) ?_;rintro e w9 ⟨rfl,ys,hp,hso,h9⟩;refine ⟨_,rfl,?_⟩
  repeat refine zX rfl ?_
  exact aj ⟨ys,⟨rfl,trivial⟩,hp,hso,h9⟩
 obtain ⟨hp,hso,h⟩:=hw;refine wp_seq (ai [(4,vf),(5,Vi 0)] (· = w9) af hS ?_ (fun a w10 hS hw=>?_))
 ·repeat refine zX rfl ?_
  refine zL rfl (h.r.xcell (i:=0) rfl (j:=3) rfl) ?_
  repeat refine zX rfl ?_
  exact aj ⟨⟨rfl,rfl,trivial⟩,rfl⟩
 subst hw;have hrel:=hPI.rel hF3 hFo hrs hin hp hso
 have hsl:=ais (l:=ys) (h.r.1 1 _ rfl) rfl (fun x hx=>by
  have:=hin x (hp.mem_iff.1 hx)
  unfold I64; omega)
 refine wp_ret ?_
 repeat first|refine a8 ?_|refine am ?_
 exact ret2 hS rfl rfl rfl ⟨vf,ys,0,rfl,hsl,ak hB h.b,.inr (.inr ⟨htw,by rw [Int.toNat_natCast]; exact hal,rfl,by rw [Int.toNat_natCast]; exact hrel⟩)⟩
theorem ahx : ah0 13:=fun L1 s1 L2 s2 vn1 ve1 vn2 ve2 n1 n2 f1 f2 w hm hm2 _ _=>abh L1 s1 L2 s2 vn1 ve1 vn2 ve2 n1 n2 f1 f2 w hm hm2
theorem awakeC : AwakeC:=⟨aj3,ahx,ahw,aj5,aj4,aeg⟩
end
end Go.Proofs.YtndldmojkpjgoaaGreatDoor
