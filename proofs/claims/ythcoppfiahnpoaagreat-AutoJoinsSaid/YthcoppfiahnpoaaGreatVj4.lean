/- AutoJoins holds of the program as it landed: Both and Either give, for any two machines of at most 30 states and 8 letters, what the product of the two gives, made small. -/
import Derived.Test.YthcoppfiahnpoaaGreatVj3
set_option maxRecDepth 100000
namespace Go.Proofs.YthcoppfiahnpoaaGreat
structure Mc where
 s : Int
 n : List (List Int)
 f : List Bool
def plG (tot first : Nat) (st : Int) : Nat:=if st < 0 then tot else first + st.toNat
structure GP where
 st : List Nat
 nx : List Nat
 en : List Bool
def GP.row (g : GP) (tot first : Nat) (row : List Int) : GP:={ g with nx:=g.nx ++ row.map (plG tot first) }
def GP.rows (g : GP) (tot first : Nat) (next : List (List Int)) : GP:=next.foldl (fun g row=>g.row tot first row) g
def GP.add (g : GP) (tot : Nat) (m : Mc) : GP:=
 let h:=({ g with st:=g.st ++ [plG tot g.en.length m.s] } : GP).rows tot g.en.length m.n
 { h with en:=h.en ++ m.f }
def totG (ms : List Mc) : Nat:=(ms.map fun m=>m.n.length).sum
def layG (L : Nat) (ms : List Mc) : GP:=
 let g : GP:=ms.foldl (fun (g : GP) (m : Mc)=>g.add (totG ms) m) ⟨[],[],[]⟩
 ⟨g.st,g.nx ++ List.replicate L (totG ms),g.en ++ [false]⟩
theorem rows_eq (tot first : Nat) : ∀ (next : List (List Int)) (g : GP),g.rows tot first next = { g with nx:=g.nx ++ next.flatMap fun row=>row.map (plG tot first) }
 | [],g=>by simp [GP.rows]
 | r :: rs,g=>by
   show (g.row tot first r).rows tot first rs = _
   rw [rows_eq tot first rs]
   simp [GP.row]
theorem add_eq (g : GP) (tot : Nat) (m : Mc) : g.add tot m = ⟨g.st ++ [plG tot g.en.length m.s],g.nx ++ m.n.flatMap fun row=>row.map (plG tot g.en.length),g.en ++ m.f⟩:=by
 simp only [GP.add,rows_eq]
structure Laid (L tot : Nat) (nx : List Nat) (en : List Bool) (first : Nat) (m : Mc) : Prop where
 len : first + m.n.length ≤ en.length
 nx : ∀ i c : Nat,i < m.n.length → c < L → (first + i) * L + c < nx.length ∧ gt nx ((first + i) * L + c) = plG tot first (stepM m.n i c)
 en : ∀ i : Nat,i < m.n.length → en.getD (first + i) false = m.f.getD i false
theorem flat_get {L : Nat} : ∀ (next : List (List Int)) (f : Int → Nat),(∀ r ∈ next,r.length = L) → (next.flatMap fun row=>row.map f).length = next.length * L ∧
  ∀ i c : Nat,(hi : i < next.length) → c < L → gt (next.flatMap fun row=>row.map f) (i * L + c) = f (next[i].getD c (-1))
 | [],f,_=>⟨by simp,fun i c hi=>by simp at hi⟩
 | r :: rs,f,h=>by
   obtain ⟨h1,h2⟩:=flat_get rs f (fun x hx=>h x (List.mem_cons_of_mem _ hx))
   have hr:=h r (List.mem_cons_self ..)
   refine ⟨by rw [List.flatMap_cons,List.length_append,h1,List.length_map,hr,List.length_cons,Nat.succ_mul]; omega,fun i c hi hc=>?_⟩
   rw [List.flatMap_cons,gt_app,List.length_map,hr]
   cases i with
   | zero=>
     rw [Nat.zero_mul,Nat.zero_add,if_pos hc]
     simp [gt,List.getD_eq_getElem?_getD,hr,hc]
   | succ i=>
     have e : (i + 1) * L + c - L = i * L + c:=by rw [Nat.succ_mul]; omega
     rw [if_neg (by rw [Nat.succ_mul]; omega),e]
     exact h2 i c (by simpa using hi) hc
theorem Laid.more {L tot first : Nat} {nx k : List Nat} {en e2 : List Bool} {m : Mc} (h : Laid L tot nx en first m) : Laid L tot (nx ++ k) (en ++ e2) first m:=by
 have hl:=h.len
 refine ⟨by rw [List.length_append]; omega,fun i c hi hc=>?_,fun i hi=>?_⟩
 ·have:=h.nx i c hi hc
  refine ⟨by rw [List.length_append]; omega,?_⟩
  rw [gt_app,if_pos this.1]; exact this.2
 ·rw [List.getD_eq_getElem?_getD,List.getElem?_append_left (by omega),← List.getD_eq_getElem?_getD]
  exact h.en i hi
def Mc.ok (L : Nat) (m : Mc) : Prop:=m.f.length = m.n.length ∧ (∀ r ∈ m.n,r.length = L)
theorem laid_new {L tot : Nat} {g : GP} {m : Mc} (h : m.ok L) (hn : g.nx.length = g.en.length * L) : (g.add tot m).nx.length = (g.add tot m).en.length * L ∧ Laid L tot (g.add tot m).nx (g.add tot m).en g.en.length m:=by
 rw [add_eq]
 obtain ⟨h1,h2⟩:=h
 obtain ⟨f1,f2⟩:=flat_get (L:=L) m.n (plG tot g.en.length) h2
 refine ⟨?_,?_,fun i c hi hc=>?_,fun i hi=>?_⟩
 ·show (g.nx ++ _).length = (g.en ++ m.f).length * L
  rw [List.length_append,List.length_append,f1,hn,h1,Nat.add_mul]
 ·show g.en.length + m.n.length ≤ (g.en ++ m.f).length
  rw [List.length_append,h1]; exact Nat.le_refl _
 ·have hil : i * L + c < m.n.length * L:=Nat.lt_of_lt_of_le (show i * L + c < (i + 1) * L by rw [Nat.succ_mul]; omega) (Nat.mul_le_mul_right _ hi)
  have e : (g.en.length + i) * L + c = g.nx.length + (i * L + c):=by rw [Nat.add_mul,hn]; omega
  refine ⟨?_,?_⟩
  ·show _ < (g.nx ++ _).length
   rw [List.length_append,f1]; omega
  ·show gt (g.nx ++ _) _ = _
   rw [e,gt_app,if_neg (by omega),Nat.add_sub_cancel_left,f2 i c hi hc]
   have hr:=h2 _ (List.getElem_mem hi)
   rw [stepM_get hi (by omega)]
   simp [List.getD_eq_getElem?_getD,hr,hc]
 ·show (g.en ++ m.f).getD (g.en.length + i) false = _
  rw [List.getD_eq_getElem?_getD,List.getElem?_append_right (by omega),Nat.add_sub_cancel_left,← List.getD_eq_getElem?_getD]
structure Gr (N L : Nat) (nx : List Nat) (en : List Bool) : Prop where
 len : nx.length = N * L
 enl : en.length = N
 pos : 0 < N
 lt : ∀ s c,s < N → c < L → gt nx (s * L + c) < N
abbrev dlG (nx : List Nat) (L s c : Nat) : Nat:=gt nx (s * L + c)
abbrev enG (en : List Bool) (s : Nat) : Bool:=en.getD s false
def Mc.inn (m : Mc) : Prop:=∀ r ∈ m.n,∀ t ∈ r,t < m.n.length
theorem rows_le {m : Mc} (h : m.inn) {tot first : Nat} (hf : first + m.n.length ≤ tot) : ∀ x ∈ (m.n.flatMap fun row=>row.map (plG tot first)),x ≤ tot:=fun x hx=>by
 obtain ⟨r,hr,hx⟩:=List.mem_flatMap.1 hx
 obtain ⟨t,ht,rfl⟩:=List.mem_map.1 hx
 have:=h r hr t ht
 unfold plG
 split <;> omega
theorem shape_ok {L s : Int} {n : List (List Int)} {f : List Bool} (h : Shape L s n f) : (⟨s,n,f⟩ : Mc).ok L.toNat ∧ (⟨s,n,f⟩ : Mc).inn:=by
 have h0:=h.L0
 refine ⟨⟨h.fin,fun r hr=>?_⟩,fun r hr t ht=>?_⟩
 ·obtain ⟨k,hk,rfl⟩:=List.mem_iff_getElem.1 hr
  have:=(h.rows k hk).1
  show n[k].length = L.toNat
  omega
 ·obtain ⟨k,hk,rfl⟩:=List.mem_iff_getElem.1 hr
  obtain ⟨j,hj,rfl⟩:=List.mem_iff_getElem.1 ht
  exact ((h.rows k hk).2 j hj).2
theorem gr_of {L tot : Nat} {nx : List Nat} {en : List Bool} (hnx : nx.length = tot * L) (hen : en.length = tot) (hm : ∀ x ∈ nx,x ≤ tot) : Gr (tot + 1) L (nx ++ List.replicate L tot) (en ++ [false]):=by
 refine ⟨by rw [List.length_append,hnx,List.length_replicate,Nat.succ_mul],by rw [List.length_append,hen]; rfl,by omega,fun s c hs hc=>?_⟩
 have hall : ∀ x ∈ nx ++ List.replicate L tot,x ≤ tot:=fun x hx=>by
  rcases List.mem_append.1 hx with h | h
  ·exact hm x h
  ·rw [(List.mem_replicate.1 h).2]; exact Nat.le_refl _
 have hl : s * L + c < (nx ++ List.replicate L tot).length:=by
  rw [List.length_append,hnx,List.length_replicate]
  have : (s + 1) * L ≤ (tot + 1) * L:=Nat.mul_le_mul_right _ hs
  rw [Nat.succ_mul,Nat.succ_mul] at this
  omega
 have : gt (nx ++ List.replicate L tot) (s * L + c) = (nx ++ List.replicate L tot)[s * L + c]:=by
  show List.getD _ _ _ = _
  rw [List.getD_eq_getElem?_getD,List.getElem?_eq_getElem hl]; rfl
 rw [this]
 exact Nat.lt_succ_of_le (hall _ (List.getElem_mem hl))
theorem lay_one {L : Nat} {m : Mc} (h : m.ok L) (hi : m.inn) : ∃ nx en,layG L [m] = ⟨[plG m.n.length 0 m.s],nx ++ List.replicate L m.n.length,en ++ [false]⟩ ∧ nx.length = m.n.length * L ∧ en.length = m.n.length ∧ Laid L m.n.length nx en 0 m ∧ ∀ x ∈ nx,x ≤ m.n.length:=by
 have ht : totG [m] = m.n.length:=by simp [totG]
 obtain ⟨h1,h2⟩:=laid_new (tot:=m.n.length) (g:=⟨[],[],[]⟩) h (by simp)
 refine ⟨_,_,?_,?_,?_,h2,?_⟩
 ·simp only [layG,ht,List.foldl_cons,List.foldl_nil]
  rw [add_eq]
  rfl
 ·rw [h1,add_eq]
  simp [h.1]
 ·rw [add_eq]; simp [h.1]
 ·rw [add_eq]
  exact rows_le hi (by simp)
theorem lay_two {L : Nat} {a b : Mc} (ha : a.ok L) (hb : b.ok L) (hai : a.inn) (hbi : b.inn) : ∃ nx en,layG L [a,b] = ⟨[plG (a.n.length + b.n.length) 0 a.s,plG (a.n.length + b.n.length) a.n.length b.s],nx ++ List.replicate L (a.n.length + b.n.length),en ++ [false]⟩ ∧ nx.length = (a.n.length + b.n.length) * L ∧
  en.length = a.n.length + b.n.length ∧ Laid L (a.n.length + b.n.length) nx en 0 a ∧ Laid L (a.n.length + b.n.length) nx en a.n.length b ∧ ∀ x ∈ nx,x ≤ a.n.length + b.n.length:=by
 have ht : totG [a,b] = a.n.length + b.n.length:=by simp [totG]
 obtain ⟨h1,h2⟩:=laid_new (tot:=a.n.length + b.n.length) (g:=⟨[],[],[]⟩) ha (by simp)
 obtain ⟨h3,h4⟩:=laid_new (tot:=a.n.length + b.n.length) hb h1
 have e1 : ((⟨[],[],[]⟩ : GP).add (a.n.length + b.n.length) a).en.length = a.n.length:=by rw [add_eq]; simp [ha.1]
 have e2 : (((⟨[],[],[]⟩ : GP).add (a.n.length + b.n.length) a).add (a.n.length + b.n.length) b).en.length = a.n.length + b.n.length:=by
  rw [add_eq]; show (_ ++ b.f).length = _
  rw [List.length_append,e1,hb.1]
 rw [e1] at h4
 refine ⟨_,_,?_,?_,e2,?_,h4,?_⟩
 ·simp only [layG,ht,List.foldl_cons,List.foldl_nil]
  rw [add_eq (((⟨[],[],[]⟩ : GP).add (a.n.length + b.n.length) a)),e1]
  simp only [add_eq,List.nil_append,List.length_nil,List.cons_append]
 ·rw [h3,e2]
 ·rw [add_eq (((⟨[],[],[]⟩ : GP).add (a.n.length + b.n.length) a))]
  exact h2.more
 ·rw [add_eq (((⟨[],[],[]⟩ : GP).add (a.n.length + b.n.length) a)),e1,add_eq]
  intro x hx
  rcases List.mem_append.1 hx with h | h
  ·exact rows_le hai (first:=0) (by omega) x (by simpa using h)
  ·exact rows_le hbi (by omega) x h
def Goes (L : Nat) (nx : List Nat) (en : List Bool) (tot first : Nat) (m : Mc) : Prop:=∀ (w : List Nat) (st : Int),-1 ≤ st → st < m.n.length → Word L w → enG en (rnG (dlG nx L) (plG tot first st) w) = accM m.n m.f st w
theorem laid_goes {L tot first : Nat} {nx : List Nat} {en : List Bool} {m : Mc} {s0 : Int} (hs : Shape L s0 m.n m.f) (h : Laid L tot nx en first m) (hnx : nx.length = tot * L) (hen : en.length = tot) :
  Goes L (nx ++ List.replicate L tot) (en ++ [false]) tot first m:=by
 have hlen:=h.len
 have dead : ∀ (w : List Nat),Word L w → enG (en ++ [false]) (rnG (dlG (nx ++ List.replicate L tot) L) tot w) = false:=by
  intro w
  induction w with
  | nil=>
    intro _
    show (en ++ [false]).getD tot false = false
    rw [List.getD_eq_getElem?_getD,List.getElem?_append_right (by omega),hen]; simp
  | cons c w ih=>
    intro hw
    show enG _ (rnG _ (dlG (nx ++ List.replicate L tot) L tot c) w) = false
    have : dlG (nx ++ List.replicate L tot) L tot c = tot:=by
     show gt (nx ++ List.replicate L tot) (tot * L + c) = tot
     rw [gt_app,if_neg (by omega),hnx,Nat.add_sub_cancel_left]
     have:=hw.head
     simp [gt,List.getD_eq_getElem?_getD,this]
    rw [this]
    exact ih hw.tail
 intro w
 induction w with
 | nil=>
   intro st h1 h2 _
   show (en ++ [false]).getD (plG tot first st) false = endsM m.f st
   unfold plG endsM
   split
   ·rename_i hn
    rw [List.getD_eq_getElem?_getD,List.getElem?_append_right (by omega),hen]
    have : decide (0 ≤ st) = false:=decide_eq_false (by omega)
    simp [this]
   ·rename_i hn
    have h3 : decide (0 ≤ st) = true:=decide_eq_true (by omega)
    rw [h3,Bool.true_and,List.getD_eq_getElem?_getD,List.getElem?_append_left (by omega),← List.getD_eq_getElem?_getD]
    exact h.en _ (by omega)
 | cons c w ih=>
   intro st h1 h2 hw
   have hc:=hw.head
   show enG _ (rnG _ (dlG (nx ++ List.replicate L tot) L (plG tot first st) c) w) = accM m.n m.f (stepM m.n st c) w
   by_cases hn : st < 0
   ·have e1 : plG tot first st = tot:=by unfold plG; rw [if_pos hn]
    have:=dead (c :: w) hw
    rw [e1,stepM_neg _ hn,accM_neg _ _ _ (by omega)]
    exact this
   ·obtain ⟨i,rfl⟩:=Int.eq_ofNat_of_zero_le (Int.not_lt.1 hn)
    have hi : i < m.n.length:=by omega
    have hx:=h.nx i c hi hc
    have e1 : plG tot first (i : Int) = first + i:=by unfold plG; rw [if_neg hn]; rfl
    have e2 : dlG (nx ++ List.replicate L tot) L (first + i) c = plG tot first (stepM m.n i c):=by
     show gt (nx ++ List.replicate L tot) _ = _
     rw [gt_app,if_pos hx.1]; exact hx.2
    rw [e1,e2]
    have hr:=stepM_range hs (st:=(i : Int)) (l:=(c : Int)) h2 (by omega) (by omega)
    exact ih _ hr.1 hr.2 hw.tail
theorem plG_lt {tot first : Nat} {m : Mc} {st : Int} (h : first + m.n.length ≤ tot) (hst : st < m.n.length) : plG tot first st < tot + 1:=by
 unfold plG
 split
 ·omega
 ·omega
end Go.Proofs.YthcoppfiahnpoaaGreat
namespace Go.Proofs.YthcoppfiahnpoaaGreat
open Go Sym
theorem en_lay : enters Tryz.prog 29 = true:=by kernel_rfl
theorem en_place : enters Tryz.prog 58 = true:=by kernel_rfl
theorem en_gfollow : enters Tryz.prog 33 = true:=by kernel_rfl
structure GV where
 st : Value
 nx : Value
 en : Value
abbrev gX (b L tot : Nat) (V : GV) : Ow:=oX 61 b 5 [Vi L,V.st,V.nx,V.en,Vi tot]
abbrev grR (b L tot : Nat) (g : GP) (V : GV) : List Ow:=[gX b L tot V,oN V.st g.st,oS V.nx g.nx,oB V.en g.en]
abbrev mX (B : Nat) (L s : Int) (vn ve : Value) : Ow:=oX 25 B 4 [Vi L,Vi s,vn,ve]
def MsIn (w : World) (B : Nat) (L : Int) (ms : List Mc) : Prop:=∀ j (h : j < ms.length),∃ vn ve,cellsAt w.cell? B (0 + j * 4) [Vi L,Vi ms[j].s,vn,ve] ∧ Ma w L ms[j].s ms[j].n ms[j].f vn ve
theorem cellsAt_keep {w w' : World} (hb : RowKit.Below w.heap.size w w') {b : Nat} : ∀ (l : List Value) (o : Nat),cellsAt w.cell? b o l → cellsAt w'.cell? b o l
 | [],_,_=>trivial
 | _ :: r,o,h=>⟨keep hb h.1,cellsAt_keep hb r (o + 1) h.2⟩
section
variable {base : Nat} {w0 w w' : World} {l : List Ow}
theorem Hold.var (h : Hold base w0 w l) {T k : Nat} (cs us : List Value) (hc : cs.length = k) (hu : us.length = k) :
  Hold base w0 ((w.alloc (.cells cs.toArray T)).setCells w.heap.size 0 us) (oX T w.heap.size k us :: l) ∧ RowKit.Below w.heap.size w ((w.alloc (.cells cs.toArray T)).setCells w.heap.size 0 us):=by
 have hb : RowKit.Below w.heap.size w ((w.alloc (.cells cs.toArray T)).setCells w.heap.size 0 us):=below_of_grown (below_alloc w _) (grown_sets _ _ _ _) (fun k hk=>by
  simp only [Option.some.injEq] at hk; omega)
 have ho:=(OwnB.new w cs T).sets (us:=us) (by omega)
 refine ⟨h.new (grown_below hb) ⟨by simp [hu],.inr ⟨_,1,_,rfl,h.s,ho,Nat.le_refl _,by decide,by simp [hu],by simp [← hu]⟩⟩ (.inr ⟨_,rfl,Nat.le_refl _⟩),hb⟩
theorem Hold.erase (h : Hold base w0 w l) (i : Nat) : Hold base w0 w (l.eraseIdx i):=⟨h.r.erase i,h.b,h.s⟩
theorem Hold.join {k : List Ow} (h : Hold base w0 w l) (hk : Hold w.heap.size w w' k) : Hold base w0 w' (k ++ l):=by
 have h1:=h.below hk.b
 refine ⟨⟨fun i o hi=>?_,fun i j a b hij ha hb=>?_⟩,h1.b,h1.s⟩
 ·rw [List.getElem?_append] at hi
  split at hi
  ·exact own_mono (hk.r.1 i o hi) h.s
  ·exact h1.r.1 _ _ hi
 ·have cross : ∀ (i j : Nat) (a b : Ow),k[i]? = some a → l[j]? = some b → apart a.v b.v:=fun i j a b ha hb=>by
   cases hx : a.v.ownBlock with
   | none=>exact .inl hx
   | some x=>
     refine .inr fun e=>?_
     have h2:=(hk.r.lt ha hx).1
     have h3:=((h.r.1 j b hb).lt x (by rw [← e,hx])).2
     omega
  rw [List.getElem?_append] at ha hb
  split at ha <;> split at hb
  ·exact hk.r.2 i j a b hij ha hb
  ·exact cross _ _ a b ha hb
  ·exact (cross _ _ b a hb ha).symm
  ·exact h1.r.2 _ _ a b (by omega) ha hb
end
section
variable {base : Nat} {w0 w : World} {b L tot : Nat} {g : GP} {rest : List Ow}
theorem place_any {V : GV} (h : Hold base w0 w (grR b L tot g V ++ rest)) {first : Nat} {st : Int} (hf : first + st.toNat ≤ 1000000000) :
  Calls Tryz.prog 58 #[Vp b,Vi first,Vi st] w fun e w'=>e = .returned (Vi (plG tot first st : Int)) ∧ RowKit.Below w.heap.size w w':=by
 refine Sym.enter (args:=[Vp b,Vi first,Vi st]) Tryz.func58 rfl rfl rfl (fun a0 hS0=>?_)
 refine wp_seq (seq_cut [(0,Vp b),(1,Vi first),(2,Vi st)] (· = w) tab_ok hS0 ?_ (fun a w1 hS hw=>?_))
 ·repeat first|refine zP rfl ?_|refine zK rfl ?_
  exact o_nil ⟨⟨rfl,rfl,rfl,trivial⟩,rfl⟩
 subst hw
 refine wp_seq (wp_seq (seq_cut [(0,Vp b),(1,Vi first),(2,Vi st),(8,.bool (decide (st < 0)))] (· = w1) tab_ok hS ?_ (fun a w2 hS hw=>?_)))
 ·repeat first|refine zP rfl ?_|refine zK rfl ?_
  refine zC rfl (rfl) ?_
  repeat first|refine zP rfl ?_|refine zK rfl ?_
  exact o_nil ⟨⟨rfl,rfl,rfl,rfl,trivial⟩,rfl⟩
 subst hw
 refine cond hS rfl (fun hT=>?_) (fun hF=>?_)
 ·refine wp_seq (seq_cut [(6,Vi tot)] (· = w2) tab_ok hS ?_ (fun a w3 hS hw=>?_))
  ·repeat first|refine zP rfl ?_|refine zK rfl ?_
   refine zL rfl (h.r.xcell (i:=0) rfl (j:=4) rfl) ?_
   repeat first|refine zP rfl ?_|refine zK rfl ?_
   exact o_nil ⟨⟨rfl,trivial⟩,rfl⟩
  subst hw
  refine wp_ret ?_
  repeat (first | refine then_ret ?_ | refine block_ret ?_)
  exact ret1 hS rfl rfl ⟨by rw [plG,if_pos (of_decide_eq_true hT)],RowKit.Below.refl _ _⟩
 ·refine wp_skip ?_
  have hn:=of_decide_eq_false hF
  obtain ⟨i,rfl⟩:=Int.eq_ofNat_of_zero_le (Int.not_lt.1 hn)
  have hi : ((i : Int)).toNat = i:=rfl
  rw [hi] at hf
  refine wp_seq (seq_cut [(6,Vi (first + i : Nat))] (· = w2) tab_ok hS ?_ (fun a w3 hS hw=>?_))
  ·repeat first|refine zP rfl ?_|refine zK rfl ?_
   refine zN rfl (i64_add _ _ (by omega)) ?_
   repeat first|refine zP rfl ?_|refine zK rfl ?_
   exact o_nil ⟨⟨rfl,trivial⟩,rfl⟩
  subst hw
  refine wp_ret ?_
  repeat (first | refine then_ret ?_ | refine block_ret ?_)
  exact ret1 hS rfl rfl ⟨by rw [plG,if_neg hn,hi],RowKit.Below.refl _ _⟩
theorem gfollow_any {V : GV} (h : Hold base w0 w (grR b L tot g V ++ rest)) {s c : Nat} (hs : s * L + c < g.nx.length) (hn : g.nx.length ≤ 1000000000) (hv : dlG g.nx L s c ≤ 1000000000) :
  Calls Tryz.prog 33 #[Vp b,Vi s,Vi c] w fun e w'=>e = .returned (Vi (dlG g.nx L s c : Int)) ∧ RowKit.Below w.heap.size w w':=by
 obtain ⟨vst,vnx,ven⟩:=V
 refine Sym.enter (args:=[Vp b,Vi s,Vi c]) Tryz.func33 rfl rfl rfl (fun a0 hS0=>?_)
 obtain ⟨gn,cn,rfl,-⟩:=h.r.nilOr (i:=2) rfl (by omega)
 refine wp_seq (seq_cut [(0,Vp b),(1,Vi s),(2,Vi c)] (· = w) tab_ok hS0 ?_ (fun a w1 hS hw=>?_))
 ·repeat first|refine zP rfl ?_|refine zK rfl ?_
  exact o_nil ⟨⟨rfl,rfl,rfl,trivial⟩,rfl⟩
 subst hw
 refine wp_seq (quiet_cut [(6,Vi (dlG g.nx L s c : Int))] tab_ok mixed (by kernel_rfl) hS ?_ (fun a w2 hS hw=>?_))
 ·repeat first|refine qP rfl ?_|refine qK rfl ?_
  refine qL rfl (h.r.xcell (i:=0) rfl (j:=2) rfl) ?_
  repeat first|refine qP rfl ?_|refine qK rfl ?_
  refine qL rfl (h.r.xcell (i:=0) rfl (j:=0) rfl) ?_
  refine qN rfl (i64_mul _ _ (by omega)) ?_
  repeat first|refine qP rfl ?_|refine qK rfl ?_
  refine qN rfl (i64_add _ _ (by omega)) ?_
  refine qI rfl (rfl) (hs) ?_
  refine qL rfl (h.r.cS (i:=2) rfl hs) ?_
  refine qN rfl (i64_in (dlG g.nx L s c) (by omega)) ?_
  repeat first|refine qP rfl ?_|refine qK rfl ?_
  exact q_nil ⟨rfl,trivial⟩
 refine wp_ret ?_
 repeat (first | refine then_ret ?_ | refine block_ret ?_)
 exact ret1 hS rfl rfl ⟨rfl,hw⟩
end
section
variable {base : Nat} {w0 w : World} {b L tot M first : Nat} {g : GP} {rest : List Ow} {Ls s : Int} {vn ve : Value} {more : Env}
theorem lay_r12 {V : GV} (h : Hold base w0 w (mX M Ls s vn ve :: (grR b L tot g V ++ rest))) (hf : first + s.toNat ≤ 1000000000) (hl : g.st.length ≤ 1000000000) {vms : Value} {n k : Nat} {Q : Exit → Act → World → Prop} {a : Act} {ops : Array Oper} {id : Nat} (hops : Sym.regionOf Tryz.f29.body 12 = some (id,ops))
  (hS : St Tryz.f29.ntmps a [(0,Vi L),(46,vms),(47,Vi n),(48,Vi k),(5,Vp b),(9,Vp M),(10,Vi first)])
  (hq : ∀ V' a' w',St Tryz.f29.ntmps a' [(0,Vi L),(46,vms),(47,Vi n),(48,Vi k),(5,Vp b),(9,Vp M),(10,Vi first)] → Hold base w0 w' (mX M Ls s vn ve :: (grR b L tot { g with st:=g.st ++ [plG tot first s] } V' ++ rest)) → Q .normal a' w') : (Code.region id ops true).wp Tryz.prog Q a w:=by
 cases hops
 obtain ⟨vst,vnx,ven⟩:=V
 refine any_cutx (α:=GV) 11 (fun _=>[(0,Vi L),(46,vms),(47,Vi n),(48,Vi k),(5,Vp b),(9,Vp M),(10,Vi first)]) (fun V' w'=>Hold base w0 w' (mX M Ls s vn ve :: (grR b L tot { g with st:=g.st ++ [plG tot first s] } V' ++ rest))) mixed hS ?_ hq
 obtain ⟨gs,cs,rfl,hc⟩:=h.r.any (i:=2) rfl
 have hy : RowKit.Below w.drew.heap.size w.drew w.drew:=RowKit.Below.refl _ _
 have hD:=h.drew
 refine yG 0 tab_ok rfl (by kernel_rfl) (.inr hy) rfl rfl ?_
 refine yT 1 tab_ok rfl (by kernel_rfl) hy rfl (rfl) ?_
 refine yT 2 tab_ok rfl (by kernel_rfl) hy rfl (rfl) ?_
 refine yT 3 tab_ok rfl (by kernel_rfl) hy rfl (rfl) ?_
 refine yL 4 tab_ok rfl (by kernel_rfl) hy rfl rfl (hD.r.xcell (i:=1) rfl (j:=1) rfl) ?_
 refine yT 5 tab_ok rfl (by kernel_rfl) hy rfl (rfl) ?_
 refine yT 6 tab_ok rfl (by kernel_rfl) hy rfl (rfl) ?_
 refine yT 7 tab_ok rfl (by kernel_rfl) hy rfl (rfl) ?_
 refine yL 8 tab_ok rfl (by kernel_rfl) hy rfl rfl (hD.r.xcell (i:=0) rfl (j:=1) rfl) ?_
 refine y_one 9 (by kernel_rfl) (y_op 9 tab_ok rfl rfl rfl rfl ?_)
 refine And.intro en_place ((place_any hD.tail hf).mono ?_)
 rintro e w1 ⟨rfl,hw1⟩
 refine ⟨_,rfl,?_⟩
 have hy1:=below_trans hy hw1
 refine And.intro (.inr hy1) ?_
 have h1:=hD.below hw1
 refine y_one 10 (by kernel_rfl) (y_op 10 tab_ok rfl rfl rfl rfl ?_)
 refine Exists.intro [(0,Vi ((plG tot first s : Int)))] (Exists.intro #[Vi ((plG tot first s : Int))] (And.intro (And.intro rfl rfl) (And.intro (by decide) (And.intro (fillI _ _ _) ?_))))
 have hy2:=hy1.alloc hy1.size (.cells #[Vi (plG tot first s : Int)] 3)
 refine And.intro (.inr hy2) ?_
 have h2:=h1.alloc (.cells #[Vi (plG tot first s : Int)] 3)
 have ask : AppAsk (w1.alloc (.cells #[Vi (plG tot first s : Int)] 3)) ⟨3,.int .i64,1,8,Vi 0⟩ (.slice gs g.st.length cs) g.st.length (nats g.st) (Vs w1.heap.size 1 1) 1 [Vi (plG tot first s : Int)] base:=
  ⟨h2.r.1 2 _ rfl,.inr ⟨_,0,_,rfl,cell_alloc_new rfl,trivial⟩,rfl,(by simp [Value.oneCell']),(by omega),(by show (g.st.length + 1) * 8 ≤ _; omega),h2.s⟩
 refine y_one 11 (by kernel_rfl) (y_op 11 tab_ok rfl rfl rfl rfl ?_)
 refine Exists.intro _ (Exists.intro _ (Exists.intro _ (Exists.intro _ (Exists.intro _ (And.intro (ask) (And.intro (fun _ h=>h.symm) (And.intro (by decide) ?_)))))))
 rintro v' w3 hown hgr - hat
 refine And.intro (.inl (by kernel_rfl)) ?_
 have h3:=h2.appN (i:=2) rfl hown hgr hat
 obtain ⟨g2,n2,c2,hv⟩:=own_form hown
 subst hv
 refine yG 12 tab_ok rfl (by kernel_rfl) (.inl (by kernel_rfl)) rfl rfl ?_
 refine yG 13 tab_ok rfl (by kernel_rfl) (.inl (by kernel_rfl)) rfl rfl ?_
 refine y_one 14 (by kernel_rfl) (y_op0 14 tab_ok rfl rfl rfl ?_)
 refine And.intro rfl (And.intro rfl (And.intro ⟨_,h3.r.xcell (i:=1) rfl (j:=1) rfl⟩ (And.intro (h3.r.free (i:=1) rfl 1) (And.intro (.inl (by kernel_rfl)) ?_))))
 exact y_endx ⟨.slice g2 n2 c2,vnx,ven⟩ (by kernel_rfl) ⟨rfl,rfl,rfl,rfl,rfl,rfl,rfl,trivial⟩ (h3.xstore (i:=1) rfl 1 (.slice g2 n2 c2))
theorem lay_r19 {V : GV} {x : Int} (h : Hold base w0 w (mX M Ls s vn ve :: (grR b L tot g V ++ rest))) (hf : first + x.toNat ≤ 1000000000) (ht : plG tot first x ≤ 1000000000) (hl : g.nx.length ≤ 1000000000) {vms vr vc : Value} {n k nr i nc j : Nat} {Q : Exit → Act → World → Prop} {a : Act} {ops : Array Oper} {id : Nat} (hops : Sym.regionOf Tryz.f29.body 19 = some (id,ops))
  (hS : St Tryz.f29.ntmps a [(0,Vi L),(46,vms),(47,Vi n),(48,Vi k),(5,Vp b),(9,Vp M),(10,Vi first),(72,vr),(73,Vi nr),(74,Vi i),(78,vc),(79,Vi nc),(80,Vi j),(14,Vi x)])
  (hq : ∀ V' a' w',St Tryz.f29.ntmps a' [(0,Vi L),(46,vms),(47,Vi n),(48,Vi k),(5,Vp b),(9,Vp M),(10,Vi first),(72,vr),(73,Vi nr),(74,Vi i),(78,vc),(79,Vi nc),(80,Vi j)] → Hold base w0 w' (mX M Ls s vn ve :: (grR b L tot { g with nx:=g.nx ++ [plG tot first x] } V' ++ rest)) → Q .normal a' w') : (Code.region id ops true).wp Tryz.prog Q a w:=by
 cases hops
 obtain ⟨vst,vnx,ven⟩:=V
 refine any_cutx (α:=GV) 11 (fun _=>[(0,Vi L),(46,vms),(47,Vi n),(48,Vi k),(5,Vp b),(9,Vp M),(10,Vi first),(72,vr),(73,Vi nr),(74,Vi i),(78,vc),(79,Vi nc),(80,Vi j)]) (fun V' w'=>Hold base w0 w' (mX M Ls s vn ve :: (grR b L tot { g with nx:=g.nx ++ [plG tot first x] } V' ++ rest))) mixed hS ?_ hq
 obtain ⟨gs,cs,rfl,hc⟩:=h.r.any (i:=3) rfl
 have hy : RowKit.Below w.drew.heap.size w.drew w.drew:=RowKit.Below.refl _ _
 have hD:=h.drew
 refine yG 0 tab_ok rfl (by kernel_rfl) (.inr hy) rfl rfl ?_
 refine yT 1 tab_ok rfl (by kernel_rfl) hy rfl (rfl) ?_
 refine yT 2 tab_ok rfl (by kernel_rfl) hy rfl (rfl) ?_
 refine yT 3 tab_ok rfl (by kernel_rfl) hy rfl (rfl) ?_
 refine yL 4 tab_ok rfl (by kernel_rfl) hy rfl rfl (hD.r.xcell (i:=1) rfl (j:=2) rfl) ?_
 refine yT 5 tab_ok rfl (by kernel_rfl) hy rfl (rfl) ?_
 refine yT 6 tab_ok rfl (by kernel_rfl) hy rfl (rfl) ?_
 refine yT 7 tab_ok rfl (by kernel_rfl) hy rfl (rfl) ?_
 refine y_one 8 (by kernel_rfl) (y_op 8 tab_ok rfl rfl rfl rfl ?_)
 refine And.intro en_place ((place_any hD.tail hf).mono ?_)
 rintro e w1 ⟨rfl,hw1⟩
 refine ⟨_,rfl,?_⟩
 have hy1:=below_trans hy hw1
 refine And.intro (.inr hy1) ?_
 have h1:=hD.below hw1
 refine yT 9 tab_ok rfl (by kernel_rfl) hy1 rfl (Exists.intro _ (And.intro (i32_in _ ht) rfl)) ?_
 refine y_one 10 (by kernel_rfl) (y_op 10 tab_ok rfl rfl rfl rfl ?_)
 refine Exists.intro [(0,.int .i32 (plG tot first x : Int))] (Exists.intro #[.int .i32 (plG tot first x : Int)] (And.intro (And.intro rfl rfl) (And.intro (by decide) (And.intro (fillI _ _ _) ?_))))
 have hy2:=hy1.alloc hy1.size (.cells #[.int .i32 (plG tot first x : Int)] 21)
 refine And.intro (.inr hy2) ?_
 have h2:=h1.alloc (.cells #[.int .i32 (plG tot first x : Int)] 21)
 have ask : AppAsk (w1.alloc (.cells #[.int .i32 (plG tot first x : Int)] 21)) ⟨21,.int .i32,1,4,.int .i32 0⟩ (.slice gs g.nx.length cs) g.nx.length (n32s g.nx) (Vs w1.heap.size 1 1) 1 [.int .i32 (plG tot first x : Int)] base:=
  ⟨h2.r.1 3 _ rfl,.inr ⟨_,0,_,rfl,cell_alloc_new rfl,trivial⟩,rfl,(by simp [Value.oneCell']),(by omega),(by show (g.nx.length + 1) * 4 ≤ _; omega),h2.s⟩
 refine y_one 11 (by kernel_rfl) (y_op 11 tab_ok rfl rfl rfl rfl ?_)
 refine Exists.intro _ (Exists.intro _ (Exists.intro _ (Exists.intro _ (Exists.intro _ (And.intro (ask) (And.intro (fun _ h=>h.symm) (And.intro (by decide) ?_)))))))
 rintro v' w3 hown hgr - hat
 refine And.intro (.inl (by kernel_rfl)) ?_
 have h3:=h2.appS (i:=3) rfl hown hgr hat
 obtain ⟨g2,n2,c2,hv⟩:=own_form hown
 subst hv
 refine yG 12 tab_ok rfl (by kernel_rfl) (.inl (by kernel_rfl)) rfl rfl ?_
 refine yG 13 tab_ok rfl (by kernel_rfl) (.inl (by kernel_rfl)) rfl rfl ?_
 refine y_one 14 (by kernel_rfl) (y_op0 14 tab_ok rfl rfl rfl ?_)
 refine And.intro rfl (And.intro rfl (And.intro ⟨_,h3.r.xcell (i:=1) rfl (j:=2) rfl⟩ (And.intro (h3.r.free (i:=1) rfl 2) (And.intro (.inl (by kernel_rfl)) ?_))))
 exact y_endx ⟨vst,.slice g2 n2 c2,ven⟩ (by kernel_rfl) ⟨rfl,rfl,rfl,rfl,rfl,rfl,rfl,rfl,rfl,rfl,rfl,rfl,rfl,trivial⟩ (h3.xstore (i:=1) rfl 2 (.slice g2 n2 c2))
theorem lay_r22 {V : GV} {fin : List Bool} (h : Hold base w0 w (mX M Ls s vn ve :: (grR b L tot g V ++ rest))) (he : Sl w ve fin PBool) (oke : Ok ve) (hl : g.en.length + fin.length ≤ 1000000000) {vms : Value} {n k : Nat} {Q : Exit → Act → World → Prop} {a : Act} {ops : Array Oper} {id : Nat} (hops : Sym.regionOf Tryz.f29.body 22 = some (id,ops))
  (hS : St Tryz.f29.ntmps a [(0,Vi L),(46,vms),(47,Vi n),(48,Vi k),(5,Vp b),(9,Vp M)])
  (hq : ∀ V' a' w',St Tryz.f29.ntmps a' [(0,Vi L),(46,vms),(47,Vi n),(48,Vi k),(5,Vp b)] → Hold base w0 w' (mX M Ls s vn ve :: (grR b L tot { g with en:=g.en ++ fin } V' ++ rest)) → Q .normal a' w') : (Code.region id ops true).wp Tryz.prog Q a w:=by
 cases hops
 obtain ⟨vst,vnx,ven⟩:=V
 refine any_cutx (α:=GV) 7 (fun _=>[(0,Vi L),(46,vms),(47,Vi n),(48,Vi k),(5,Vp b)]) (fun V' w'=>Hold base w0 w' (mX M Ls s vn ve :: (grR b L tot { g with en:=g.en ++ fin } V' ++ rest))) mixed hS ?_ hq
 obtain ⟨gs,cs,rfl,hc⟩:=h.r.any (i:=4) rfl
 have hy : RowKit.Below w.drew.heap.size w.drew w.drew:=RowKit.Below.refl _ _
 have hD:=h.drew
 have heD : Sl w.drew ve fin PBool:=he
 obtain ⟨gv,nv,cv,hve⟩ : ∃ g n c,ve = .slice g n c:=by
  obtain ⟨a,b,o,c,e,_⟩:=he
  exact ⟨_,_,_,e⟩
 have hsrc:=src_of (f:=Value.bool) heD oke (fun x y h=>h)
 refine yG 0 tab_ok rfl (by kernel_rfl) (.inr hy) rfl rfl ?_
 refine yT 1 tab_ok rfl (by kernel_rfl) hy rfl (rfl) ?_
 refine yT 2 tab_ok rfl (by kernel_rfl) hy rfl (rfl) ?_
 refine yT 3 tab_ok rfl (by kernel_rfl) hy rfl (rfl) ?_
 refine yL 4 tab_ok rfl (by kernel_rfl) hy rfl rfl (hD.r.xcell (i:=1) rfl (j:=3) rfl) ?_
 refine yT 5 tab_ok rfl (by kernel_rfl) hy rfl (rfl) ?_
 refine yL 6 tab_ok rfl (by kernel_rfl) hy rfl rfl (hD.r.xcell (i:=0) rfl (j:=3) rfl) ?_
 subst hve
 have ask : AppAsk w.drew ⟨4,.bool,1,1,.bool false⟩ (.slice gs g.en.length cs) g.en.length (bools g.en) (.slice gv nv cv) fin.length (bools fin) base:=
  ⟨hD.r.1 4 _ rfl,(by
   rcases hsrc with ⟨h1,h2,h3⟩ | ⟨b,o,c,h1,h2⟩
   ·exact .inl ⟨h1,h2,h3⟩
   ·exact .inr ⟨b,o,c,h1,h2⟩),(by show (bools fin).length = fin.length * 1; simp),(by intro u hu; obtain ⟨x,_,rfl⟩:=List.mem_map.1 hu; rfl),(by omega),(by show (g.en.length + fin.length) * 1 ≤ _; omega),hD.s⟩
 refine y_one 7 (by kernel_rfl) (y_op 7 tab_ok rfl rfl rfl rfl ?_)
 refine Exists.intro _ (Exists.intro _ (Exists.intro _ (Exists.intro _ (Exists.intro _ (And.intro (ask) (And.intro (fun _ h=>h.symm) (And.intro (by decide) ?_)))))))
 rintro v' w3 hown hgr - hat
 refine And.intro (.inl (by kernel_rfl)) ?_
 have h3:=hD.appB (i:=4) rfl hown hgr hat
 obtain ⟨g2,n2,c2,hv⟩:=own_form hown
 subst hv
 refine yG 8 tab_ok rfl (by kernel_rfl) (.inl (by kernel_rfl)) rfl rfl ?_
 refine yG 9 tab_ok rfl (by kernel_rfl) (.inl (by kernel_rfl)) rfl rfl ?_
 refine y_one 10 (by kernel_rfl) (y_op0 10 tab_ok rfl rfl rfl ?_)
 refine And.intro rfl (And.intro rfl (And.intro ⟨_,h3.r.xcell (i:=1) rfl (j:=3) rfl⟩ (And.intro (h3.r.free (i:=1) rfl 3) (And.intro (.inl (by kernel_rfl)) ?_))))
 exact y_endx ⟨vst,vnx,.slice g2 n2 c2⟩ (by kernel_rfl) ⟨rfl,rfl,rfl,rfl,rfl,trivial⟩ (h3.xstore (i:=1) rfl 3 (.slice g2 n2 c2))
theorem lay_r26 {V : GV} (h : Hold base w0 w (grR b L tot g V ++ rest)) (ht : tot ≤ 1000000000) (hl : g.nx.length ≤ 1000000000) {i : Nat} {Q : Exit → Act → World → Prop} {a : Act} {ops : Array Oper} {id : Nat} (hops : Sym.regionOf Tryz.f29.body 26 = some (id,ops))
  (hS : St Tryz.f29.ntmps a [(5,Vp b),(111,Vi L),(112,Vi i)])
  (hq : ∀ V' a' w',St Tryz.f29.ntmps a' [(5,Vp b),(111,Vi L),(112,Vi i)] → Hold base w0 w' (grR b L tot { g with nx:=g.nx ++ [tot] } V' ++ rest) → Q .normal a' w') : (Code.region id ops true).wp Tryz.prog Q a w:=by
 cases hops
 obtain ⟨vst,vnx,ven⟩:=V
 refine any_cutx (α:=GV) 11 (fun _=>[(5,Vp b),(111,Vi L),(112,Vi i)]) (fun V' w'=>Hold base w0 w' (grR b L tot { g with nx:=g.nx ++ [tot] } V' ++ rest)) mixed hS ?_ hq
 obtain ⟨gs,cs,rfl,hc⟩:=h.r.any (i:=2) rfl
 have hy : RowKit.Below w.drew.heap.size w.drew w.drew:=RowKit.Below.refl _ _
 have hD:=h.drew
 refine yG 0 tab_ok rfl (by kernel_rfl) (.inr hy) rfl rfl ?_
 refine yT 1 tab_ok rfl (by kernel_rfl) hy rfl (rfl) ?_
 refine yT 2 tab_ok rfl (by kernel_rfl) hy rfl (rfl) ?_
 refine yT 3 tab_ok rfl (by kernel_rfl) hy rfl (rfl) ?_
 refine yL 4 tab_ok rfl (by kernel_rfl) hy rfl rfl (hD.r.xcell (i:=0) rfl (j:=2) rfl) ?_
 refine yT 5 tab_ok rfl (by kernel_rfl) hy rfl (rfl) ?_
 refine yT 6 tab_ok rfl (by kernel_rfl) hy rfl (rfl) ?_
 refine yT 7 tab_ok rfl (by kernel_rfl) hy rfl (rfl) ?_
 refine yL 8 tab_ok rfl (by kernel_rfl) hy rfl rfl (hD.r.xcell (i:=0) rfl (j:=4) rfl) ?_
 refine yT 9 tab_ok rfl (by kernel_rfl) hy rfl (Exists.intro _ (And.intro (i32_in _ ht) rfl)) ?_
 refine y_one 10 (by kernel_rfl) (y_op 10 tab_ok rfl rfl rfl rfl ?_)
 refine Exists.intro [(0,.int .i32 (tot : Int))] (Exists.intro #[.int .i32 (tot : Int)] (And.intro (And.intro rfl rfl) (And.intro (by decide) (And.intro (fillI _ _ _) ?_))))
 have hy2:=hy.alloc hy.size (.cells #[.int .i32 (tot : Int)] 21)
 refine And.intro (.inr hy2) ?_
 have h2:=hD.alloc (.cells #[.int .i32 (tot : Int)] 21)
 have ask : AppAsk (w.drew.alloc (.cells #[.int .i32 (tot : Int)] 21)) ⟨21,.int .i32,1,4,.int .i32 0⟩ (.slice gs g.nx.length cs) g.nx.length (n32s g.nx) (Vs w.drew.heap.size 1 1) 1 [.int .i32 (tot : Int)] base:=
  ⟨h2.r.1 2 _ rfl,.inr ⟨_,0,_,rfl,cell_alloc_new rfl,trivial⟩,rfl,(by simp [Value.oneCell']),(by omega),(by show (g.nx.length + 1) * 4 ≤ _; omega),h2.s⟩
 refine y_one 11 (by kernel_rfl) (y_op 11 tab_ok rfl rfl rfl rfl ?_)
 refine Exists.intro _ (Exists.intro _ (Exists.intro _ (Exists.intro _ (Exists.intro _ (And.intro (ask) (And.intro (fun _ h=>h.symm) (And.intro (by decide) ?_)))))))
 rintro v' w3 hown hgr - hat
 refine And.intro (.inl (by kernel_rfl)) ?_
 have h3:=h2.appS (i:=2) rfl hown hgr hat
 obtain ⟨g2,n2,c2,hv⟩:=own_form hown
 subst hv
 refine yG 12 tab_ok rfl (by kernel_rfl) (.inl (by kernel_rfl)) rfl rfl ?_
 refine yG 13 tab_ok rfl (by kernel_rfl) (.inl (by kernel_rfl)) rfl rfl ?_
 refine y_one 14 (by kernel_rfl) (y_op0 14 tab_ok rfl rfl rfl ?_)
 refine And.intro rfl (And.intro rfl (And.intro ⟨_,h3.r.xcell (i:=0) rfl (j:=2) rfl⟩ (And.intro (h3.r.free (i:=0) rfl 2) (And.intro (.inl (by kernel_rfl)) ?_))))
 exact y_endx ⟨vst,.slice g2 n2 c2,ven⟩ (by kernel_rfl) ⟨rfl,rfl,rfl,trivial⟩ (h3.xstore (i:=0) rfl 2 (.slice g2 n2 c2))
theorem lay_r5 {V : GV} (h : Hold base w0 w (mX M Ls s vn ve :: (grR b L tot g V ++ rest))) {next : List (List Int)} (hn : Sl w vn next PRow) (ht : tot + next.length ≤ 1000000000) {vms : Value} {n k : Nat} {Q : Exit → Act → World → Prop} {a : Act} {ops : Array Oper} {id : Nat} (hops : Sym.regionOf Tryz.f29.body 5 = some (id,ops))
  (hS : St Tryz.f29.ntmps a [(0,Vi L),(1,vms),(18,vms),(19,Vi n),(20,Vi k),(5,Vp b),(7,Vp M)])
  (hq : ∀ a' w',St Tryz.f29.ntmps a' [(0,Vi L),(1,vms),(18,vms),(19,Vi n),(20,Vi k),(5,Vp b)] → Hold base w0 w' (mX M Ls s vn ve :: (grR b L (tot + next.length) g V ++ rest)) → Q .normal a' w') : (Code.region id ops true).wp Tryz.prog Q a w:=by
 cases hops
 obtain ⟨vst,vnx,ven⟩:=V
 refine any_cut 10 [(0,Vi L),(1,vms),(18,vms),(19,Vi n),(20,Vi k),(5,Vp b)] (fun w'=>Hold base w0 w' (mX M Ls s vn ve :: (grR b L (tot + next.length) g ⟨vst,vnx,ven⟩ ++ rest))) mixed hS ?_ hq
 have hy : RowKit.Below w.drew.heap.size w.drew w.drew:=RowKit.Below.refl _ _
 have hD:=h.drew
 obtain ⟨an,bn,on,cn,rfl,-⟩:=hn
 refine yT 0 tab_ok rfl (by kernel_rfl) hy rfl (rfl) ?_
 refine yT 1 tab_ok rfl (by kernel_rfl) hy rfl (rfl) ?_
 refine yT 2 tab_ok rfl (by kernel_rfl) hy rfl (rfl) ?_
 refine yL 3 tab_ok rfl (by kernel_rfl) hy rfl rfl (hD.r.xcell (i:=1) rfl (j:=4) rfl) ?_
 refine yT 4 tab_ok rfl (by kernel_rfl) hy rfl (rfl) ?_
 refine yL 5 tab_ok rfl (by kernel_rfl) hy rfl rfl (hD.r.xcell (i:=0) rfl (j:=2) rfl) ?_
 refine yT 6 tab_ok rfl (by kernel_rfl) hy rfl (rfl) ?_
 refine yT 7 tab_ok rfl (by kernel_rfl) hy rfl (Exists.intro _ (And.intro (i64_add _ _ (by omega)) rfl)) ?_
 refine yT 8 tab_ok rfl (by kernel_rfl) hy rfl (rfl) ?_
 refine yT 9 tab_ok rfl (by kernel_rfl) hy rfl (rfl) ?_
 refine y_one 10 (by kernel_rfl) (y_op0 10 tab_ok rfl rfl rfl ?_)
 refine And.intro rfl (And.intro rfl (And.intro ⟨_,hD.r.xcell (i:=1) rfl (j:=4) rfl⟩ (And.intro (hD.r.free (i:=1) rfl 4) (And.intro (.inl (by kernel_rfl)) ?_))))
 exact y_end (by kernel_rfl) ⟨rfl,rfl,rfl,rfl,rfl,rfl,trivial⟩ (hD.xstore (i:=1) rfl 4 (Vi (tot + next.length : Nat)))
end
theorem fillB' (a : Bool) (z : Value) : Instr.fill (fun i=>some (i * 1,1)) (madeCells #[z] 1) [(0,.bool a)] = some #[.bool a]:=by
 have h : ∀ b,(Value.bool b).cells = #[.bool b]:=fun _=>rfl
 simp [Instr.fill,madeCells,h,Array.range,Array.foldl]
 rfl
theorem totG_split (ms : List Mc) (k : Nat) (hk : k < ms.length) : totG (ms.take (k + 1)) = totG (ms.take k) + ms[k].n.length ∧ totG (ms.take (k + 1)) ≤ totG ms:=by
 have e1 : totG (ms.take (k + 1)) = totG (ms.take k) + ms[k].n.length:=by
  unfold totG
  rw [List.take_succ_eq_append_getElem hk,List.map_append,List.sum_append]; simp
 refine ⟨e1,?_⟩
 have e2 : totG ms = totG (ms.take (k + 1)) + totG (ms.drop (k + 1)):=by
  conv=>lhs; rw [← List.take_append_drop (k + 1) ms]
  simp only [totG,List.map_append,List.sum_append]
 omega
def layK (tot : Nat) (ms : List Mc) (k : Nat) : GP:=(ms.take k).foldl (fun (g : GP) (m : Mc)=>g.add tot m) ⟨[],[],[]⟩
theorem layK_succ {tot k : Nat} {ms : List Mc} (hk : k < ms.length) : layK tot ms (k + 1) = (layK tot ms k).add tot ms[k]:=by
 unfold layK
 rw [List.take_succ_eq_append_getElem hk,List.foldl_append]; rfl
theorem layK_len {L tot : Nat} {ms : List Mc} (h : ∀ m ∈ ms,m.ok L) : ∀ k,k ≤ ms.length → (layK tot ms k).nx.length = (layK tot ms k).en.length * L ∧ (layK tot ms k).en.length = totG (ms.take k) ∧ (layK tot ms k).st.length = k
 | 0,_=>⟨by simp [layK],by simp [layK,totG],by simp [layK]⟩
 | k + 1,hk=>by
   obtain ⟨h1,h2,h3⟩:=layK_len h k (by omega)
   have hm:=h _ (List.getElem_mem (show k < ms.length by omega))
   rw [layK_succ (by omega)]
   refine ⟨(laid_new hm h1).1,?_,?_⟩
   ·rw [add_eq,(totG_split ms k (by omega)).1,← h2]
    simp [hm.1]
   ·rw [add_eq]; simp [h3]
theorem plG_le {tot first : Nat} {n : Nat} {st : Int} (h : first + n ≤ tot) (hst : st < n) : plG tot first st ≤ tot ∧ first + st.toNat ≤ tot:=by
 unfold plG
 constructor
 ·split <;> omega
 ·omega
section
variable {w : World} {L Bm cm : Nat} {ms : List Mc}
theorem lay_any (hm : MsIn w Bm (L : Int) ms) (hk0 : 0 < ms.length) (hk1 : ms.length ≤ 1000) (hL : L ≤ 300) (hok : ∀ m ∈ ms,m.ok L ∧ m.inn ∧ m.s < m.n.length) (htot : totG ms ≤ 10000) :
  Calls Tryz.prog 29 #[Vi L,Vs Bm ms.length cm] w fun e w'=>∃ b V,e = .returned (Vp b) ∧ Hold w.heap.size w w' (grR b L (totG ms) (layG L ms) V):=by
 refine Sym.enter (args:=[Vi L,Vs Bm ms.length cm]) Tryz.func29 rfl rfl rfl (fun a0 hS0=>?_)
 obtain ⟨base,hbase⟩ : ∃ base,base = w.heap.size:=⟨_,rfl⟩
 obtain ⟨w0,hw0⟩ : ∃ w0,w0 = w:=⟨_,rfl⟩
 have h:=Hold.start w
 rw [← hw0] at hm h ⊢
 rw [← hw0] at hbase
 rw [← hbase] at h ⊢
 obtain ⟨vms,hvms⟩ : ∃ v,v = Vs Bm ms.length cm:=⟨_,rfl⟩
 have hS0' : St Tryz.f29.ntmps a0 [(0,Vi L),(1,vms)]:=by rw [hvms]; exact hS0
 clear hS0
 have hmK : ∀ w',RowKit.Below base w0 w' → RowKit.Below w0.heap.size w0 w':=fun w' hb=>by rw [← hbase]; exact hb
 refine wp_seq (seq_cut [(0,Vi L),(1,vms)] (· = w0) tab_ok hS0' ?_ (fun a w1 hS hw=>?_))
 ·repeat first|refine zP rfl ?_|refine zK rfl ?_
  exact o_nil ⟨⟨rfl,rfl,trivial⟩,rfl⟩
 subst hw
 refine wp_seq (seq_cutx (α:=Nat × GV) (fun x=>[(0,Vi L),(1,vms),(5,Vp x.1)]) (fun x w'=>Hold base w1 w' (grR x.1 L 0 ⟨[],[],[]⟩ x.2 ++ [])) tab_ok hS ?_ (fun x a w2 hS h=>?_))
 ·repeat first|refine zP rfl ?_|refine zK rfl ?_
  refine zB rfl ?_
  repeat first|refine zP rfl ?_|refine zK rfl ?_
  have h1:=((((h.nil 4 1).nil 21 1).nil 3 1).box (T:=61) (k:=5) #[Vi L,.slice none 0 0,.slice none 0 0,.slice none 0 0,Vi 0] rfl)
  exact o_nil ⟨(w1.heap.size,⟨.slice none 0 0,.slice none 0 0,.slice none 0 0⟩),⟨rfl,rfl,rfl,trivial⟩,h1⟩
 obtain ⟨b,V⟩:=x
 simp only at hS h
 refine wp_seq (cut (F:=fun a' w'=>St Tryz.f29.ntmps a' [(0,Vi L),(1,vms),(5,Vp b)] ∧ ∃ V,Hold base w1 w' (grR b L (totG ms) ⟨[],[],[]⟩ V ++ [])) ?_ ?_)
 ·refine wp_seq (seq_cut [(0,Vi L),(1,vms),(18,vms),(19,Vi ms.length),(20,Vi (0 : Nat)),(5,Vp b)] (· = w2) tab_ok hS ?_ (fun a w3 hS hw=>?_))
  ·subst hvms
   repeat first|refine zP rfl ?_|refine zK rfl ?_
   exact o_nil ⟨⟨rfl,rfl,rfl,rfl,rfl,rfl,trivial⟩,rfl⟩
  subst hw
  refine wp_block (loop0 hS (fun g E w'=>∃ k : Nat,k ≤ ms.length ∧ g = ms.length - k ∧ E = [(0,Vi L),(1,vms),(18,vms),(19,Vi ms.length),(20,Vi k),(5,Vp b)] ∧ ∃ V,Hold base w1 w' (grR b L (totG (ms.take k)) ⟨[],[],[]⟩ V ++ [])) ms.length ⟨0,by omega,by omega,rfl,V,h⟩ ?_)
  clear h hS
  rintro g E w4 a ⟨k,hk,rfl,rfl,V,h⟩ hS
  refine wp_seq (seq_cut [(0,Vi L),(1,vms),(18,vms),(19,Vi ms.length),(20,Vi k),(5,Vp b),(21,.bool (decide (k < ms.length)))] (· = w4) tab_ok hS ?_ (fun a w5 hS hw=>?_))
  ·repeat first|refine zP rfl ?_|refine zK rfl ?_
   refine zC rfl (lt_nat _ _) ?_
   repeat first|refine zP rfl ?_|refine zK rfl ?_
   exact o_nil ⟨⟨rfl,rfl,rfl,rfl,rfl,rfl,rfl,trivial⟩,rfl⟩
  subst hw
  refine wp_seq (cond hS rfl (fun hT=>wp_skip ?_) (fun hF=>?_))
  rotate_left
  ·have hkk : k = ms.length:=by have:=of_decide_eq_false hF; omega
   subst hkk
   rw [List.take_length] at h
   refine wp_exit ?_
   repeat (first | refine then_exit ?_ | refine block_exit ?_ | refine block_other rfl ?_)
   exact ⟨hS.sub ⟨rfl,rfl,rfl,trivial⟩,V,h⟩
  have hkk : k < ms.length:=of_decide_eq_true hT
  obtain ⟨vn,ve,hcs,hMa⟩:=hm k hkk
  obtain ⟨an,_,_,cn,hvn,-⟩:=id hMa.n
  obtain ⟨ae,_,_,ce,hve,-⟩:=id hMa.e
  subst hvn hve
  replace hcs:=cellsAt_keep (hmK w5 h.b) _ _ hcs
  obtain ⟨hts1,hts2⟩:=totG_split ms k hkk
  refine wp_seq (wp_block (wp_seq (seq_cutx (α:=Nat) (fun M=>[(0,Vi L),(1,vms),(18,vms),(19,Vi ms.length),(20,Vi k),(5,Vp b),(7,Vp M)]) (fun M w'=>Hold base w1 w' (mX M (L : Int) ms[k].s (.slice an ms[k].n.length cn) (.slice ae ms[k].f.length ce) :: (grR b L (totG (ms.take k)) ⟨[],[],[]⟩ V ++ []))) tab_ok hS ?_ (fun M a w6 hS h=>?_))))
  ·subst hvms
   refine zI rfl (rfl) (hkk) ?_
   refine zA ([Vi L,Vi ms[k].s,.slice an ms[k].n.length cn,.slice ae ms[k].f.length ce]) rfl rfl (hcs) ?_
   refine zB rfl ?_
   obtain ⟨hv1,hv2⟩:=h.var (T:=25) (k:=4) [Vi 0,Vi 0,.slice none 0 0,.slice none 0 0] [Vi L,Vi ms[k].s,.slice an ms[k].n.length cn,.slice ae ms[k].f.length ce] rfl rfl
   refine o_step0 rfl rfl (And.intro rfl (And.intro rfl (And.intro (own_cells4 (OwnB.new w5 [Vi 0,Vi 0,.slice none 0 0,.slice none 0 0] 25)) ?_)))
   exact o_nil ⟨w5.heap.size,⟨rfl,rfl,rfl,rfl,rfl,rfl,rfl,trivial⟩,hv1⟩
  refine lay_r5 h (hMa.keep (hmK w6 h.b)).n (by omega) (by rfl) hS (fun a w7 hS h=>?_)
  refine block_normal ?_
  refine seq_cut [(0,Vi L),(1,vms),(18,vms),(19,Vi ms.length),(20,Vi (k + 1 : Nat)),(5,Vp b)] (· = w7) tab_ok hS ?_ (fun a w8 hS hw=>?_)
  ·repeat first|refine zP rfl ?_|refine zK rfl ?_
   refine zN rfl (i64_add _ 1 (by omega)) ?_
   repeat first|refine zP rfl ?_|refine zK rfl ?_
   exact o_nil ⟨⟨rfl,rfl,rfl,rfl,rfl,rfl,trivial⟩,rfl⟩
  subst hw
  refine ⟨ms.length - (k + 1),_,by omega,⟨k + 1,by omega,rfl,rfl,V,?_⟩,hS⟩
  rw [hts1]
  exact h.tail
 clear h hS
 rintro a w3 ⟨hS,V,h⟩
 obtain ⟨tot,htt⟩ : ∃ tot,totG ms = tot:=⟨_,rfl⟩
 rw [htt] at h htot ⊢
 obtain ⟨⟨vst,vnx,ven⟩,hV⟩ : ∃ V',V' = V:=⟨_,rfl⟩
 subst hV
 have hcap : (tot + 1) * L ≤ 10001 * 300:=Nat.mul_le_mul (by omega) hL
 refine wp_seq (seq_cutx (α:=GV) (fun _=>[(0,Vi L),(1,vms),(5,Vp b)]) (fun V w'=>Hold base w1 w' (grR b L tot ⟨[],[],[]⟩ V ++ [])) tab_ok hS ?_ (fun V a w4 hS h=>?_))
 ·repeat first|refine zP rfl ?_|refine zK rfl ?_
  refine zL rfl (h.r.xcell (i:=0) rfl (j:=4) rfl) ?_
  refine zN rfl (i64_add _ 1 (by omega)) ?_
  repeat first|refine zP rfl ?_|refine zK rfl ?_
  refine zN rfl (i64_mul _ _ (by omega)) ?_
  refine o_step rfl rfl rfl (Exists.intro 0 (Exists.intro ((tot + 1) * L) (And.intro rfl (And.intro rfl (And.intro (Nat.zero_le _) (And.intro rfl (And.intro rfl (And.intro (by show 4 * _ ≤ _; omega) (And.intro (by omega) ?_)))))))))
  have h1 : Hold base w1 (w3.alloc (.cells (madeCells #[.int .i32 0] ((tot + 1) * L)) 21)) (oS (Vs w3.heap.size 0 ((tot + 1) * L)) [] :: (grR b L tot ⟨[],[],[]⟩ ⟨vst,vnx,ven⟩ ++ [])):=
   h.new (World.grownBy_alloc w3 _ none) (World.ownsRow_made w3 _ ((tot + 1) * L) h.s (by unfold maxLen; omega) (by simp [madeCells])) (.inr ⟨_,rfl,Nat.le_refl _⟩)
  repeat first|refine zP rfl ?_|refine zK rfl ?_
  refine zS rfl rfl (h1.r.xcell (i:=1) rfl (j:=2) rfl) (h1.r.free (i:=1) rfl 2) ?_
  have h2:=(h1.xstore (i:=1) rfl 2 (Vs w3.heap.size 0 ((tot + 1) * L))).erase 3
  refine o_nil ⟨⟨vst,Vs w3.heap.size 0 ((tot + 1) * L),ven⟩,⟨rfl,rfl,rfl,trivial⟩,h2.perm ?_⟩
  show List.Perm [_,_,_,_] [_,_,_,_]
  exact (List.Perm.swap _ _ _).trans (.cons _ (.swap _ _ _))
 have hoks : ∀ m ∈ ms,m.ok L:=fun m hmm=>(hok m hmm).1
 refine wp_seq (cut (F:=fun a' w'=>St Tryz.f29.ntmps a' [(0,Vi L),(5,Vp b)] ∧ ∃ V,Hold base w1 w' (grR b L tot (layK tot ms ms.length) V ++ [])) ?_ ?_)
 ·refine wp_seq (seq_cut [(0,Vi L),(46,vms),(47,Vi ms.length),(48,Vi (0 : Nat)),(5,Vp b)] (· = w4) tab_ok hS ?_ (fun a w5 hS hw=>?_))
  ·subst hvms
   repeat first|refine zP rfl ?_|refine zK rfl ?_
   exact o_nil ⟨⟨rfl,rfl,rfl,rfl,rfl,trivial⟩,rfl⟩
  subst hw
  refine wp_block (loop0 hS (fun g E w'=>∃ k : Nat,k ≤ ms.length ∧ g = ms.length - k ∧ E = [(0,Vi L),(46,vms),(47,Vi ms.length),(48,Vi k),(5,Vp b)] ∧ ∃ V,Hold base w1 w' (grR b L tot (layK tot ms k) V ++ [])) ms.length ⟨0,by omega,by omega,rfl,V,h⟩ ?_)
  clear h hS
  rintro g E w6 a ⟨k,hk,rfl,rfl,V,h⟩ hS
  refine wp_seq (seq_cut [(0,Vi L),(46,vms),(47,Vi ms.length),(48,Vi k),(5,Vp b),(49,.bool (decide (k < ms.length)))] (· = w6) tab_ok hS ?_ (fun a w7 hS hw=>?_))
  ·repeat first|refine zP rfl ?_|refine zK rfl ?_
   refine zC rfl (lt_nat _ _) ?_
   repeat first|refine zP rfl ?_|refine zK rfl ?_
   exact o_nil ⟨⟨rfl,rfl,rfl,rfl,rfl,rfl,trivial⟩,rfl⟩
  subst hw
  refine wp_seq (cond hS rfl (fun hT=>wp_skip ?_) (fun hF=>?_))
  rotate_left
  ·have hkk : k = ms.length:=by have:=of_decide_eq_false hF; omega
   subst hkk
   refine wp_exit ?_
   repeat (first | refine then_exit ?_ | refine block_exit ?_ | refine block_other rfl ?_)
   exact ⟨hS.sub ⟨rfl,rfl,trivial⟩,V,h⟩
  have hkk : k < ms.length:=of_decide_eq_true hT
  obtain ⟨vn,ve,hcs,hMa⟩:=hm k hkk
  obtain ⟨an,_,_,cn,hvn,-⟩:=id hMa.n
  obtain ⟨ae,_,_,ce,hve,-⟩:=id hMa.e
  obtain ⟨hok1,hok2,hok3⟩:=hok _ (List.getElem_mem hkk)
  obtain ⟨hts1,hts2⟩:=totG_split ms k hkk
  rw [htt] at hts2
  obtain ⟨hg1,hg2,hg3⟩:=layK_len (tot:=tot) hoks k hk
  obtain ⟨g,hg⟩ : ∃ g,g = layK tot ms k:=⟨_,rfl⟩
  rw [← hg] at hg1 hg2 hg3 h
  obtain ⟨m,hmm⟩ : ∃ m,m = ms[k]:=⟨_,rfl⟩
  rw [← hmm] at hcs hMa hok1 hok2 hok3 hts1 hvn hve
  have hroom : (g.en.length + m.n.length) * L ≤ 10000 * 300:=Nat.mul_le_mul (by omega) hL
  rw [Nat.add_mul] at hroom
  replace hcs:=cellsAt_keep (hmK w7 h.b) _ _ hcs
  refine wp_seq (wp_block (wp_seq (seq_cutx (α:=Nat) (fun M=>[(0,Vi L),(46,vms),(47,Vi ms.length),(48,Vi k),(5,Vp b),(9,Vp M)]) (fun M w'=>Hold base w1 w' (mX M (L : Int) m.s vn ve :: (grR b L tot g V ++ []))) tab_ok hS ?_ (fun M a w8 hS h=>?_))))
  ·subst hvn hve
   rw [hmm] at hcs
   subst hvms
   refine zI rfl (rfl) (hkk) ?_
   refine zA ([Vi L,Vi ms[k].s,.slice an ms[k].n.length cn,.slice ae ms[k].f.length ce]) rfl rfl (hcs) ?_
   refine zB rfl ?_
   obtain ⟨hv1,hv2⟩:=h.var (T:=25) (k:=4) [Vi 0,Vi 0,.slice none 0 0,.slice none 0 0] [Vi L,Vi ms[k].s,.slice an ms[k].n.length cn,.slice ae ms[k].f.length ce] rfl rfl
   refine o_step0 rfl rfl (And.intro rfl (And.intro rfl (And.intro (own_cells4 (OwnB.new w7 [Vi 0,Vi 0,.slice none 0 0,.slice none 0 0] 25)) ?_)))
   rw [← hmm] at hv1 ⊢
   exact o_nil ⟨w7.heap.size,⟨rfl,rfl,rfl,rfl,rfl,rfl,trivial⟩,hv1⟩
  obtain ⟨first,hfi⟩ : ∃ first,first = g.en.length:=⟨_,rfl⟩
  obtain ⟨⟨vst,vnx,ven⟩,hV⟩ : ∃ V',V' = V:=⟨_,rfl⟩
  subst hV
  obtain ⟨ge,ce',hve',-⟩:=h.r.any (i:=4) rfl
  dsimp only at hve'
  subst hve'
  refine wp_seq (seq_cut [(0,Vi L),(46,vms),(47,Vi ms.length),(48,Vi k),(5,Vp b),(9,Vp M),(10,Vi first)] (· = w8) tab_ok hS ?_ (fun a w9 hS hw=>?_))
  ·subst hfi
   repeat first|refine zP rfl ?_|refine zK rfl ?_
   refine zL rfl (h.r.xcell (i:=1) rfl (j:=3) rfl) ?_
   repeat first|refine zP rfl ?_|refine zK rfl ?_
   exact o_nil ⟨⟨rfl,rfl,rfl,rfl,rfl,rfl,rfl,trivial⟩,rfl⟩
  subst hw
  have hps:=plG_le (tot:=tot) (first:=first) (n:=m.n.length) (st:=m.s) (by omega) hok3
  refine wp_seq (lay_r12 h (by omega) (by omega) (by rfl) (hS.sub ⟨rfl,rfl,rfl,rfl,rfl,rfl,rfl,trivial⟩) (fun V a w10 hS h=>?_))
  obtain ⟨g1,hg1'⟩ : ∃ g1 : GP,g1 = { g with st:=g.st ++ [plG tot first m.s] }:=⟨_,rfl⟩
  rw [← hg1'] at h
  have hg1n : g1.nx.length = first * L:=by rw [hg1',hfi]; exact hg1
  have hvn0 : ∃ an cn,vn = .slice an m.n.length cn:=⟨an,cn,hvn⟩
  clear hvn
  refine wp_seq (cut (F:=fun a' w'=>St Tryz.f29.ntmps a' [(0,Vi L),(46,vms),(47,Vi ms.length),(48,Vi k),(5,Vp b),(9,Vp M)] ∧ ∃ V,Hold base w1 w' (mX M (L : Int) m.s vn ve :: (grR b L tot (g1.rows tot first m.n) V ++ []))) ?_ ?_)
  ·refine wp_seq (seq_cut [(0,Vi L),(46,vms),(47,Vi ms.length),(48,Vi k),(5,Vp b),(9,Vp M),(10,Vi first),(72,vn),(73,Vi m.n.length),(74,Vi (0 : Nat))] (· = w10) tab_ok hS ?_ (fun a w11 hS hw=>?_))
   ·obtain ⟨an,cn,rfl⟩:=hvn0
    repeat first|refine zP rfl ?_|refine zK rfl ?_
    refine zL rfl (h.r.xcell (i:=0) rfl (j:=2) rfl) ?_
    repeat first|refine zP rfl ?_|refine zK rfl ?_
    exact o_nil ⟨⟨rfl,rfl,rfl,rfl,rfl,rfl,rfl,rfl,rfl,rfl,trivial⟩,rfl⟩
   subst hw
   refine wp_block (loop0 hS (fun γ E w'=>∃ i : Nat,i ≤ m.n.length ∧ γ = m.n.length - i ∧ E = [(0,Vi L),(46,vms),(47,Vi ms.length),(48,Vi k),(5,Vp b),(9,Vp M),(10,Vi first),(72,vn),(73,Vi m.n.length),(74,Vi i)] ∧ ∃ V,Hold base w1 w' (mX M (L : Int) m.s vn ve :: (grR b L tot (g1.rows tot first (m.n.take i)) V ++ []))) m.n.length ⟨0,by omega,by omega,rfl,V,by simpa [GP.rows] using h⟩ ?_)
   clear h hS
   rintro γ E w12 a ⟨i,hi,rfl,rfl,V,h⟩ hS
   refine wp_seq (seq_cut [(0,Vi L),(46,vms),(47,Vi ms.length),(48,Vi k),(5,Vp b),(9,Vp M),(10,Vi first),(72,vn),(73,Vi m.n.length),(74,Vi i),(75,.bool (decide (i < m.n.length)))] (· = w12) tab_ok hS ?_ (fun a w13 hS hw=>?_))
   ·repeat first|refine zP rfl ?_|refine zK rfl ?_
    refine zC rfl (lt_nat _ _) ?_
    repeat first|refine zP rfl ?_|refine zK rfl ?_
    exact o_nil ⟨⟨rfl,rfl,rfl,rfl,rfl,rfl,rfl,rfl,rfl,rfl,rfl,trivial⟩,rfl⟩
   subst hw
   refine wp_seq (cond hS rfl (fun hT=>wp_skip ?_) (fun hF=>?_))
   rotate_left
   ·have hii : i = m.n.length:=by have:=of_decide_eq_false hF; omega
    subst hii
    rw [List.take_length] at h
    refine wp_exit ?_
    repeat (first | refine then_exit ?_ | refine block_exit ?_ | refine block_other rfl ?_)
    exact ⟨hS.sub ⟨rfl,rfl,rfl,rfl,rfl,rfl,trivial⟩,V,h⟩
   have hii : i < m.n.length:=of_decide_eq_true hT
   obtain ⟨bn,on,cn,hvn,ar,cr,hrow,hcol⟩:=hMa.cell hii
   have hrl : m.n[i].length = L:=hok1.2 _ (List.getElem_mem hii)
   obtain ⟨gi,hgi⟩ : ∃ gi : GP,gi = g1.rows tot first (m.n.take i):=⟨_,rfl⟩
   rw [← hgi] at h
   have hgin : gi.nx.length = first * L + i * L:=by
    rw [hgi,rows_eq]
    have:=(flat_get (L:=L) (m.n.take i) (plG tot first) (fun r hr=>hok1.2 r (List.mem_of_mem_take hr))).1
    show (g1.nx ++ _).length = _
    rw [List.length_append,this,hg1n,List.length_take,Nat.min_eq_left hi]
   have hiL : i * L + L ≤ m.n.length * L:=by
    have:=Nat.mul_le_mul_right L (show i + 1 ≤ m.n.length from hii)
    rwa [Nat.succ_mul] at this
   rw [← hfi] at hroom
   refine wp_seq (wp_block (wp_seq (seq_cut [(0,Vi L),(46,vms),(47,Vi ms.length),(48,Vi k),(5,Vp b),(9,Vp M),(10,Vi first),(72,vn),(73,Vi m.n.length),(74,Vi i),(12,.slice ar m.n[i].length cr)] (· = w13) tab_ok hS ?_ (fun a w14 hS hw=>?_))))
   ·subst hvn
    refine zI rfl (rfl) (hii) ?_
    refine zL rfl (keep (hmK w13 h.b) hrow) ?_
    repeat first|refine zP rfl ?_|refine zK rfl ?_
    exact o_nil ⟨⟨rfl,rfl,rfl,rfl,rfl,rfl,rfl,rfl,rfl,rfl,rfl,trivial⟩,rfl⟩
   subst hw
   refine wp_seq (seq_cut [(0,Vi L),(46,vms),(47,Vi ms.length),(48,Vi k),(5,Vp b),(9,Vp M),(10,Vi first),(72,vn),(73,Vi m.n.length),(74,Vi i),(78,.slice ar m.n[i].length cr),(79,Vi (m.n[i].length : Int)),(80,Vi (0 : Nat))] (· = w14) tab_ok hS ?_ (fun a w15 hS hw=>?_))
   ·repeat first|refine zP rfl ?_|refine zK rfl ?_
    exact o_nil ⟨⟨rfl,rfl,rfl,rfl,rfl,rfl,rfl,rfl,rfl,rfl,rfl,rfl,rfl,trivial⟩,rfl⟩
   subst hw
   refine wp_block (loop0 hS (fun γ E w'=>∃ j : Nat,j ≤ m.n[i].length ∧ γ = m.n[i].length - j ∧ E = [(0,Vi L),(46,vms),(47,Vi ms.length),(48,Vi k),(5,Vp b),(9,Vp M),(10,Vi first),(72,vn),(73,Vi m.n.length),(74,Vi i),(78,.slice ar m.n[i].length cr),(79,Vi (m.n[i].length : Int)),(80,Vi j)] ∧ ∃ V,Hold base w1 w' (mX M (L : Int) m.s vn ve :: (grR b L tot (gi.row tot first (m.n[i].take j)) V ++ []))) m.n[i].length ⟨0,by omega,by omega,rfl,V,by simpa [GP.row] using h⟩ ?_)
   clear h hS
   rintro γ E w16 a ⟨j,hj,rfl,rfl,V,h⟩ hS
   refine wp_seq (seq_cut [(0,Vi L),(46,vms),(47,Vi ms.length),(48,Vi k),(5,Vp b),(9,Vp M),(10,Vi first),(72,vn),(73,Vi m.n.length),(74,Vi i),(78,.slice ar m.n[i].length cr),(79,Vi (m.n[i].length : Int)),(80,Vi j),(81,.bool (decide (j < m.n[i].length)))] (· = w16) tab_ok hS ?_ (fun a w17 hS hw=>?_))
   ·repeat first|refine zP rfl ?_|refine zK rfl ?_
    refine zC rfl (lt_nat _ _) ?_
    repeat first|refine zP rfl ?_|refine zK rfl ?_
    exact o_nil ⟨⟨rfl,rfl,rfl,rfl,rfl,rfl,rfl,rfl,rfl,rfl,rfl,rfl,rfl,rfl,trivial⟩,rfl⟩
   subst hw
   refine wp_seq (cond hS rfl (fun hT=>wp_skip ?_) (fun hF=>?_))
   rotate_left
   ·have hjj : j = m.n[i].length:=by have:=of_decide_eq_false hF; omega
    subst hjj
    rw [List.take_length] at h
    refine wp_exit ?_
    repeat (first | refine then_exit ?_ | refine block_exit ?_ | refine block_other rfl ?_)
    refine block_normal ?_
    refine seq_cut [(0,Vi L),(46,vms),(47,Vi ms.length),(48,Vi k),(5,Vp b),(9,Vp M),(10,Vi first),(72,vn),(73,Vi m.n.length),(74,Vi (i + 1 : Nat))] (· = w17) tab_ok hS ?_ (fun a w18 hS hw=>?_)
    ·repeat first|refine zP rfl ?_|refine zK rfl ?_
     refine zN rfl (i64_add _ 1 (by omega)) ?_
     repeat first|refine zP rfl ?_|refine zK rfl ?_
     exact o_nil ⟨⟨rfl,rfl,rfl,rfl,rfl,rfl,rfl,rfl,rfl,rfl,trivial⟩,rfl⟩
    subst hw
    refine ⟨m.n.length - (i + 1),_,by omega,⟨i + 1,by omega,rfl,rfl,V,?_⟩,hS⟩
    have e : g1.rows tot first (m.n.take (i + 1)) = gi.row tot first m.n[i]:=by
     rw [hgi]
     unfold GP.rows
     rw [List.take_succ_eq_append_getElem hii,List.foldl_append]; rfl
    rw [e]
    exact h
   have hjj : j < m.n[i].length:=of_decide_eq_true hT
   obtain ⟨br,orr,har,hcell⟩:=hcol j hjj
   have hx:=hok2 _ (List.getElem_mem hii) _ (List.getElem_mem hjj)
   have hpx:=plG_le (tot:=tot) (first:=first) (n:=m.n.length) (st:=m.n[i][j]) (by omega) hx
   refine wp_seq (wp_block (wp_seq (seq_cut [(0,Vi L),(46,vms),(47,Vi ms.length),(48,Vi k),(5,Vp b),(9,Vp M),(10,Vi first),(72,vn),(73,Vi m.n.length),(74,Vi i),(78,.slice ar m.n[i].length cr),(79,Vi (m.n[i].length : Int)),(80,Vi j),(14,Vi m.n[i][j])] (· = w17) tab_ok hS ?_ (fun a w18 hS hw=>?_))))
   ·subst har
    refine zI rfl (rfl) (hjj) ?_
    refine zL rfl (keep (hmK w17 h.b) hcell) ?_
    repeat first|refine zP rfl ?_|refine zK rfl ?_
    exact o_nil ⟨⟨rfl,rfl,rfl,rfl,rfl,rfl,rfl,rfl,rfl,rfl,rfl,rfl,rfl,rfl,trivial⟩,rfl⟩
   subst hw
   have hgl : (gi.row tot first (m.n[i].take j)).nx.length ≤ 1000000000:=by
    show (gi.nx ++ _).length ≤ _
    rw [List.length_append,hgin,List.length_map,List.length_take]
    omega
   refine lay_r19 h (by omega) (by omega) hgl (by rfl) hS (fun V a w19 hS h=>?_)
   refine block_normal ?_
   refine seq_cut [(0,Vi L),(46,vms),(47,Vi ms.length),(48,Vi k),(5,Vp b),(9,Vp M),(10,Vi first),(72,vn),(73,Vi m.n.length),(74,Vi i),(78,.slice ar m.n[i].length cr),(79,Vi (m.n[i].length : Int)),(80,Vi (j + 1 : Nat))] (· = w19) tab_ok hS ?_ (fun a w20 hS hw=>?_)
   ·repeat first|refine zP rfl ?_|refine zK rfl ?_
    refine zN rfl (i64_add _ 1 (by omega)) ?_
    repeat first|refine zP rfl ?_|refine zK rfl ?_
    exact o_nil ⟨⟨rfl,rfl,rfl,rfl,rfl,rfl,rfl,rfl,rfl,rfl,rfl,rfl,rfl,trivial⟩,rfl⟩
   subst hw
   refine ⟨m.n[i].length - (j + 1),_,by omega,⟨j + 1,by omega,rfl,rfl,V,?_⟩,hS⟩
   have e : gi.row tot first (m.n[i].take (j + 1)) = { gi.row tot first (m.n[i].take j) with nx:=(gi.row tot first (m.n[i].take j)).nx ++ [plG tot first m.n[i][j]] }:=by
    unfold GP.row
    rw [List.take_succ_eq_append_getElem hjj,List.map_append,List.map_singleton,← List.append_assoc]
   rw [e]
   exact h
  clear h hS
  rintro a w11 ⟨hS,V,h⟩
  have hrl2 : (g1.rows tot first m.n).en.length = first:=by rw [rows_eq,hg1',hfi]
  refine lay_r22 h (fin:=m.f) (hMa.keep (hmK w11 h.b)).e hMa.oke (by rw [hrl2,hok1.1]; omega) (by rfl) hS (fun V a w12 hS h=>?_)
  refine block_normal ?_
  refine seq_cut [(0,Vi L),(46,vms),(47,Vi ms.length),(48,Vi (k + 1 : Nat)),(5,Vp b)] (· = w12) tab_ok hS ?_ (fun a w13 hS hw=>?_)
  ·repeat first|refine zP rfl ?_|refine zK rfl ?_
   refine zN rfl (i64_add _ 1 (by omega)) ?_
   repeat first|refine zP rfl ?_|refine zK rfl ?_
   exact o_nil ⟨⟨rfl,rfl,rfl,rfl,rfl,trivial⟩,rfl⟩
  subst hw
  refine ⟨ms.length - (k + 1),_,by omega,⟨k + 1,by omega,rfl,rfl,V,?_⟩,hS⟩
  have e : layK tot ms (k + 1) = { g1.rows tot first m.n with en:=(g1.rows tot first m.n).en ++ m.f }:=by
   rw [layK_succ hkk,← hg,← hmm,hg1',hfi]
   unfold GP.add
   rw [rows_eq]
  rw [e]
  exact h.tail
 clear h hS
 rintro a w5 ⟨hS,V,h⟩
 obtain ⟨hg1,hg2,hg3⟩:=layK_len (tot:=tot) hoks ms.length (Nat.le_refl _)
 rw [List.take_length,htt] at hg2
 obtain ⟨g,hg⟩ : ∃ g,g = layK tot ms ms.length:=⟨_,rfl⟩
 rw [← hg] at hg1 hg2 h
 have htl : tot * L ≤ 10000 * 300:=Nat.mul_le_mul htot hL
 rw [hg2] at hg1
 refine wp_seq (cut (F:=fun a' w'=>St Tryz.f29.ntmps a' [(5,Vp b)] ∧ ∃ V,Hold base w1 w' (grR b L tot ⟨g.st,g.nx ++ List.replicate L tot,g.en⟩ V ++ [])) ?_ ?_)
 ·refine wp_seq (seq_cut [(5,Vp b),(111,Vi L),(112,Vi (0 : Nat))] (· = w5) tab_ok hS ?_ (fun a w6 hS hw=>?_))
  ·repeat first|refine zP rfl ?_|refine zK rfl ?_
   exact o_nil ⟨⟨rfl,rfl,rfl,trivial⟩,rfl⟩
  subst hw
  refine wp_block (loop0 hS (fun γ E w'=>∃ i : Nat,i ≤ L ∧ γ = L - i ∧ E = [(5,Vp b),(111,Vi L),(112,Vi i)] ∧ ∃ V,Hold base w1 w' (grR b L tot ⟨g.st,g.nx ++ List.replicate i tot,g.en⟩ V ++ [])) L ⟨0,by omega,by omega,rfl,V,by simpa using h⟩ ?_)
  clear h hS
  rintro γ E w7 a ⟨i,hi,rfl,rfl,V,h⟩ hS
  refine wp_seq (seq_cut [(5,Vp b),(111,Vi L),(112,Vi i),(113,.bool (decide (i < L)))] (· = w7) tab_ok hS ?_ (fun a w8 hS hw=>?_))
  ·repeat first|refine zP rfl ?_|refine zK rfl ?_
   refine zC rfl (lt_nat _ _) ?_
   repeat first|refine zP rfl ?_|refine zK rfl ?_
   exact o_nil ⟨⟨rfl,rfl,rfl,rfl,trivial⟩,rfl⟩
  subst hw
  refine wp_seq (cond hS rfl (fun hT=>wp_skip ?_) (fun hF=>?_))
  rotate_left
  ·have hii : i = L:=by have:=of_decide_eq_false hF; omega
   subst hii
   refine wp_exit ?_
   repeat (first | refine then_exit ?_ | refine block_exit ?_ | refine block_other rfl ?_)
   exact ⟨hS.sub ⟨rfl,trivial⟩,V,h⟩
  have hii : i < L:=of_decide_eq_true hT
  refine wp_seq (wp_block (lay_r26 h (by omega) (by simp; omega) (by rfl) (hS.sub ⟨rfl,rfl,rfl,trivial⟩) (fun V a w9 hS h=>?_)))
  refine block_normal ?_
  refine seq_cut [(5,Vp b),(111,Vi L),(112,Vi (i + 1 : Nat))] (· = w9) tab_ok hS ?_ (fun a w10 hS hw=>?_)
  ·repeat first|refine zP rfl ?_|refine zK rfl ?_
   refine zN rfl (i64_add _ 1 (by omega)) ?_
   repeat first|refine zP rfl ?_|refine zK rfl ?_
   exact o_nil ⟨⟨rfl,rfl,rfl,trivial⟩,rfl⟩
  subst hw
  refine ⟨L - (i + 1),_,by omega,⟨i + 1,by omega,rfl,rfl,V,?_⟩,hS⟩
  rw [List.replicate_succ',← List.append_assoc]
  exact h
 clear h hS
 rintro a w6 ⟨hS,V,h⟩
 obtain ⟨⟨vst,vnx,ven⟩,hV⟩ : ∃ V',V' = V:=⟨_,rfl⟩
 subst hV
 obtain ⟨ge,cge,hve',-⟩:=h.r.any (i:=3) rfl
 dsimp only at hve'
 subst hve'
 refine wp_seq (seq_cutx (α:=Value) (fun _=>[(5,Vp b)]) (fun v w'=>Hold base w1 w' (grR b L tot ⟨g.st,g.nx ++ List.replicate L tot,g.en ++ [false]⟩ ⟨vst,vnx,v⟩ ++ [])) tab_ok hS ?_ (fun v a w7 hS h=>?_))
 ·repeat first|refine zP rfl ?_|refine zK rfl ?_
  refine zL rfl (h.r.xcell (i:=0) rfl (j:=3) rfl) ?_
  refine o_step rfl rfl rfl ?_
  refine Exists.intro [(0,.bool false)] (Exists.intro #[.bool false] (And.intro (And.intro rfl rfl) (And.intro (by decide) (And.intro (fillB' _ _) ?_))))
  have h1:=h.alloc (.cells #[.bool false] 4)
  have ask : AppAsk (w6.alloc (.cells #[.bool false] 4)) ⟨4,.bool,1,1,.bool false⟩ (.slice ge g.en.length cge) g.en.length (bools g.en) (Vs w6.heap.size 1 1) 1 [.bool false] base:=
   ⟨h1.r.1 3 _ rfl,.inr ⟨_,0,_,rfl,cell_alloc_new rfl,trivial⟩,rfl,(by simp [Value.oneCell']),(by omega),(by show (g.en.length + 1) * 1 ≤ _; omega),h1.s⟩
  refine o_step rfl rfl rfl ?_
  refine Exists.intro _ (Exists.intro _ (Exists.intro _ (Exists.intro _ (Exists.intro _ (And.intro (ask) (And.intro (fun _ h=>h.symm) (And.intro (by decide) ?_)))))))
  rintro v' w7 hown hgr - hat
  have h2:=h1.appB (ys:=[false]) (i:=3) rfl hown hgr hat
  obtain ⟨g2,n2,c2,hv⟩:=own_form hown
  subst hv
  repeat first|refine zP rfl ?_|refine zK rfl ?_
  refine zS rfl rfl (h2.r.xcell (i:=0) rfl (j:=3) rfl) (h2.r.free (i:=0) rfl 3) ?_
  exact o_nil ⟨.slice g2 n2 c2,⟨rfl,trivial⟩,h2.xstore (i:=0) rfl 3 (.slice g2 n2 c2)⟩
 refine wp_seq (seq_cut [(4,Vp b)] (· = w7) tab_ok hS ?_ (fun a w8 hS hw=>?_))
 ·repeat first|refine zP rfl ?_|refine zK rfl ?_
  exact o_nil ⟨⟨rfl,trivial⟩,rfl⟩
 subst hw
 refine wp_ret ?_
 repeat (first | refine then_ret ?_ | refine block_ret ?_)
 refine ret1 hS rfl rfl ⟨b,⟨vst,vnx,v⟩,rfl,?_⟩
 have e : layG L ms = ⟨g.st,g.nx ++ List.replicate L tot,g.en ++ [false]⟩:=by
  rw [hg]
  unfold layG layK
  rw [List.take_length,htt]
 rw [e]
 exact h
end
end Go.Proofs.YthcoppfiahnpoaaGreat
namespace Go.Proofs.YthcoppfiahnpoaaGreat
section
variable (key : Nat → Nat)
def cntK : Nat → Nat → Nat
 | 0,_=>0
 | k + 1,i=>cntK k i + if key k = i then 1 else 0
def cumK : Nat → Nat → Nat
 | 0,_=>0
 | k + 1,i=>cumK k i + if key k ≤ i then 1 else 0
end
section
variable {key : Nat → Nat}
theorem cum_zero : ∀ k,cumK key k 0 = cntK key k 0
 | 0=>rfl
 | k + 1=>by
   simp only [cumK,cntK,cum_zero k,Nat.le_zero_eq]
theorem cum_succ (i : Nat) : ∀ k,cumK key k (i + 1) = cumK key k i + cntK key k (i + 1)
 | 0=>rfl
 | k + 1=>by
   simp only [cumK,cntK,cum_succ i k]
   by_cases h1 : key k ≤ i
   ·rw [if_pos h1,if_pos (by omega),if_neg (by omega)]; omega
   ·by_cases h2 : key k = i + 1
    ·rw [if_neg h1,if_pos (by omega),if_pos h2]; omega
    ·rw [if_neg h1,if_neg (by omega),if_neg h2]; omega
theorem cum_le (i : Nat) : ∀ k,cumK key k i ≤ k
 | 0=>Nat.le_refl _
 | k + 1=>by
   have:=cum_le i k
   simp only [cumK]
   split <;> omega
theorem cnt_le_cum (i : Nat) (k : Nat) : cntK key k i ≤ cumK key k i:=by
 cases i with
 | zero=>rw [cum_zero]; exact Nat.le_refl _
 | succ i=>rw [cum_succ]; omega
theorem cnt_mono {i k : Nat} : ∀ j,cntK key k i ≤ cntK key (k + j) i
 | 0=>Nat.le_refl _
 | j + 1=>by
   have:=cnt_mono (i:=i) (k:=k) j
   show _ ≤ cntK key (k + j) i + _
   omega
theorem cnt_lt {i k E : Nat} (hk : k < E) (h : key k = i) : cntK key k i + 1 ≤ cntK key E i:=by
 have:=cnt_mono (key:=key) (i:=i) (k:=k + 1) (E - (k + 1))
 rw [show k + 1 + (E - (k + 1)) = E by omega] at this
 have e : cntK key (k + 1) i = cntK key k i + 1:=by simp [cntK,h]
 omega
theorem cum_lt {k i : Nat} : ∀ j,i < j → cumK key k i + cntK key k j ≤ cumK key k j
 | 0,h=>by omega
 | j + 1,h=>by
   rw [cum_succ]
   by_cases e : i = j
   ·subst e; exact Nat.le_refl _
   ·have:=cum_lt (k:=k) (i:=i) j (by omega)
    omega
end
structure FillS (key : Nat → Nat) (E L k : Nat) (fs ls : List Nat) : Prop where
 fl : fs.length = E + 1
 ll : ls.length = E
 f : ∀ i,i ≤ E → gt fs i = cumK key E i - cntK key k i
 b : ∀ i p,i < E → cumK key E i - cntK key k i ≤ p → p < cumK key E i → ∃ a,a < k ∧ key a = i ∧ gt ls p = a / L
 c : ∀ a,a < k → ∃ p,cumK key E (key a) - cntK key k (key a) ≤ p ∧ p < cumK key E (key a) ∧ gt ls p = a / L
 d : ∀ i p q,i < E → cumK key E i - cntK key k i ≤ p → p < q → q < cumK key E i → gt ls p ≠ gt ls q
theorem FillS.at {key : Nat → Nat} {E L k : Nat} {fs ls : List Nat} (h : FillS key E L k fs ls) (hk : k < E) (hkey : key k < E) : 0 < gt fs (key k) ∧ gt fs (key k) - 1 < E ∧ cumK key E (key k) - cntK key k (key k) = gt fs (key k):=by
 have h1:=h.f (key k) (by omega)
 have h2:=cnt_lt (key:=key) hk rfl
 have h3:=cnt_le_cum (key:=key) (key k) E
 have h4:=cum_le (key:=key) (key k) E
 omega
theorem FillS.step {key : Nat → Nat} {E L k : Nat} {fs ls : List Nat} (h : FillS key E L k fs ls) (hk : k < E) (hkey : key k < E) (hL : ∀ a,a < k → key a = key k → a / L ≠ k / L) :
  FillS key E L (k + 1) (fs.set (key k) (gt fs (key k) - 1)) (ls.set (gt fs (key k) - 1) (k / L)):=by
 obtain ⟨hpos,hlt,hfk⟩:=h.at hk hkey
 have hc:=cnt_lt (key:=key) hk rfl
 have hcc:=cnt_le_cum (key:=key) (key k) E
 have hcnt : ∀ i,cntK key (k + 1) i = cntK key k i + if key k = i then 1 else 0:=fun _=>rfl
 have hmono : ∀ i,cntK key k i ≤ cntK key E i:=fun i=>by
  have:=cnt_mono (key:=key) (i:=i) (k:=k) (E - k)
  rwa [show k + (E - k) = E by omega] at this
 have apart : ∀ i p,i ≠ key k → cumK key E i - cntK key k i ≤ p → p < cumK key E i → p ≠ gt fs (key k) - 1:=fun i p hi h1 h2 e=>by
  have m1:=hmono i
  have m2:=hmono (key k)
  rcases Nat.lt_or_gt_of_ne hi with h3 | h3
  ·have:=cum_lt (key:=key) (k:=E) (key k) h3
   omega
  ·have:=cum_lt (key:=key) (k:=E) i h3
   have:=cnt_le_cum (key:=key) i E
   omega
 refine ⟨by rw [List.length_set]; exact h.fl,by rw [List.length_set]; exact h.ll,fun i hi=>?_,fun i p hi h1 h2=>?_,fun a ha=>?_,fun i p q hi h1 h2 h3=>?_⟩
 ·rw [gt_set,hcnt]
  have:=h.f i hi
  by_cases e : key k = i
  ·subst e
   rw [if_pos ⟨rfl,by rw [h.fl]; omega⟩,if_pos rfl]
   omega
  ·rw [if_neg (fun h=>e h.1),if_neg e]; exact this
 ·rw [gt_set,h.ll]
  by_cases e : gt fs (key k) - 1 = p
  ·rw [if_pos ⟨e,hlt⟩]
   refine ⟨k,by omega,?_,rfl⟩
   refine Decidable.byContradiction fun hne=>?_
   rw [hcnt,if_neg hne] at h1
   exact apart i p (Ne.symm hne) (by omega) h2 e.symm
  ·rw [if_neg (fun h=>e h.1)]
   have h1' : cumK key E i - cntK key k i ≤ p:=by
    rw [hcnt] at h1
    by_cases e2 : key k = i
    ·rw [if_pos e2] at h1
     subst e2
     omega
    ·rw [if_neg e2] at h1; omega
   obtain ⟨a,ha,hb,hc⟩:=h.b i p hi h1' h2
   exact ⟨a,by omega,hb,hc⟩
 ·rw [hcnt]
  by_cases e : a = k
  ·subst e
   refine ⟨gt fs (key a) - 1,by rw [if_pos rfl]; omega,by omega,?_⟩
   rw [gt_set,h.ll,if_pos ⟨rfl,hlt⟩]
  ·obtain ⟨p,h1,h2,h3⟩:=h.c a (by omega)
   refine ⟨p,by split <;> omega,h2,?_⟩
   rw [gt_set,h.ll,if_neg,h3]
   rintro ⟨e2,_⟩
   by_cases e3 : key a = key k
   ·rw [e3] at h1; omega
   ·exact apart _ p e3 h1 h2 e2.symm
 ·rw [gt_set,gt_set,h.ll]
  rw [hcnt] at h1
  by_cases e : key k = i
  ·subst e
   rw [if_pos rfl] at h1
   by_cases e1 : gt fs (key k) - 1 = p
   ·rw [if_pos ⟨e1,hlt⟩,if_neg (by omega)]
    obtain ⟨a,ha,hb,hc2⟩:=h.b (key k) q hi (by omega) h3
    rw [hc2]
    exact (hL a ha hb).symm
   ·rw [if_neg (fun h=>e1 h.1),if_neg (by omega)]
    exact h.d (key k) p q hi (by omega) h2 h3
  ·rw [if_neg e] at h1
   have a1:=apart i p (Ne.symm e) (by omega) (by omega)
   have a2:=apart i q (Ne.symm e) (by omega) h3
   rw [if_neg (fun h=>a1 h.1.symm),if_neg (fun h=>a2 h.1.symm)]
   exact h.d i p q hi (by omega) h2 h3
def keyG (nx : List Nat) (L a : Nat) : Nat:=gt nx a * L + a % L
theorem pack {L x c : Nat} (hc : c < L) : (x * L + c) / L = x ∧ (x * L + c) % L = c:=by
 have : 0 < L:=by omega
 constructor
 ·rw [Nat.mul_comm,Nat.mul_add_div this,Nat.div_eq_of_lt hc,Nat.add_zero]
 ·rw [Nat.mul_comm,Nat.mul_add_mod,Nat.mod_eq_of_lt hc]
theorem keyG_lt {N L : Nat} {nx : List Nat} {en : List Bool} (h : Gr N L nx en) {a : Nat} (ha : a < N * L) : keyG nx L a < N * L:=by
 have hL : 0 < L:=by
  rcases Nat.eq_zero_or_pos L with h | h
  ·subst h; omega
  ·exact h
 have hd : a / L < N:=Nat.div_lt_of_lt_mul (by rw [Nat.mul_comm]; exact ha)
 have hm : a % L < L:=Nat.mod_lt _ hL
 have:=h.lt (a / L) (a % L) hd hm
 rw [show a / L * L + a % L = a by rw [Nat.mul_comm]; exact Nat.div_add_mod a L] at this
 unfold keyG
 have h2 : (gt nx a + 1) * L ≤ N * L:=Nat.mul_le_mul_right _ this
 rw [Nat.succ_mul] at h2
 omega
structure SrcOk (N L : Nat) (nx fs ls : List Nat) : Prop where
 fl : fs.length = N * L + 1
 ll : ls.length = N * L
 le : ∀ t c,t < N → c < L → gt fs (t * L + c) ≤ gt fs (t * L + c + 1) ∧ gt fs (t * L + c + 1) ≤ N * L
 mem : ∀ t c,t < N → c < L → ∀ s,(∃ p,gt fs (t * L + c) ≤ p ∧ p < gt fs (t * L + c + 1) ∧ gt ls p = s) ↔ s < N ∧ dlG nx L s c = t
 nd : ∀ t c,t < N → c < L → ∀ p q,gt fs (t * L + c) ≤ p → p < q → q < gt fs (t * L + c + 1) → gt ls p ≠ gt ls q
theorem fill_done {N L : Nat} {nx fs ls : List Nat} (h : FillS (keyG nx L) (N * L) L (N * L) fs ls) : SrcOk N L nx fs ls:=by
 have key : ∀ t c,t < N → c < L → t * L + c < N * L:=fun t c ht hc=>by
  have : (t + 1) * L ≤ N * L:=Nat.mul_le_mul_right _ ht
  rw [Nat.succ_mul] at this
  omega
 have f1 : ∀ i,i < N * L → gt fs (i + 1) = cumK (keyG nx L) (N * L) i:=fun i hi=>by
  rw [h.f (i + 1) (by omega),cum_succ]; omega
 refine ⟨h.fl,h.ll,fun t c ht hc=>?_,fun t c ht hc s=>?_,fun t c ht hc p q h1 h2 h3=>?_⟩
 ·have hk:=key t c ht hc
  rw [h.f _ (by omega),f1 _ hk]
  exact ⟨by omega,cum_le _ _⟩
 ·have hk:=key t c ht hc
  rw [h.f _ (by omega),f1 _ hk]
  constructor
  ·rintro ⟨p,h1,h2,rfl⟩
   obtain ⟨a,ha,hb,hc2⟩:=h.b _ p hk h1 h2
   have hd : a / L < N:=Nat.div_lt_of_lt_mul (by rw [Nat.mul_comm]; exact ha)
   have hm : a % L < L:=Nat.mod_lt _ (by omega)
   have e:=hb
   unfold keyG at e
   have e1:=congrArg (· / L) e
   have e2:=congrArg (· % L) e
   simp only [(pack hm).1,(pack hm).2,(pack hc).1,(pack hc).2] at e1 e2
   refine ⟨by rw [hc2]; exact hd,?_⟩
   rw [hc2]
   show gt nx (a / L * L + c) = t
   rw [← e2,show a / L * L + a % L = a by rw [Nat.mul_comm]; exact Nat.div_add_mod a L]
   exact e1
  ·rintro ⟨hs,hd⟩
   have hk2:=key s c hs hc
   obtain ⟨p,h1,h2,h3⟩:=h.c (s * L + c) hk2
   have e : keyG nx L (s * L + c) = t * L + c:=by
    unfold keyG
    rw [(pack hc).2,show gt nx (s * L + c) = t from hd]
   rw [e] at h1 h2
   exact ⟨p,h1,h2,by rw [h3,(pack hc).1]⟩
 ·have hk:=key t c ht hc
  rw [h.f _ (by omega)] at h1
  rw [f1 _ hk] at h3
  exact h.d _ p q hk h1 h2 h3
structure CntS (key : Nat → Nat) (E k : Nat) (fs : List Nat) : Prop where
 fl : fs.length = E + 1
 f : ∀ i,i ≤ E → gt fs i = cntK key k i
theorem CntS.step {key : Nat → Nat} {E k : Nat} {fs : List Nat} (h : CntS key E k fs) (hk : key k < E) : CntS key E (k + 1) (fs.set (key k) (gt fs (key k) + 1)):=
 ⟨by rw [List.length_set]; exact h.fl,fun i hi=>by
  rw [gt_set,h.fl]
  show _ = cntK key k i + _
  by_cases e : key k = i
  ·subst e
   rw [if_pos ⟨rfl,by omega⟩,if_pos rfl,h.f _ (by omega)]
  ·rw [if_neg (fun h=>e h.1),if_neg e,h.f i hi]; omega⟩
structure SumS (key : Nat → Nat) (E j : Nat) (fs : List Nat) : Prop where
 fl : fs.length = E + 1
 lo : ∀ i,i ≤ j → gt fs i = cumK key E i
 hi : ∀ i,j < i → i ≤ E → gt fs i = cntK key E i
theorem CntS.sum {key : Nat → Nat} {E : Nat} {fs : List Nat} (h : CntS key E E fs) : SumS key E 0 fs:=
 ⟨h.fl,fun i hi=>by rw [show i = 0 by omega,h.f 0 (by omega),cum_zero],fun i _ hi=>h.f i hi⟩
theorem SumS.step {key : Nat → Nat} {E j : Nat} {fs : List Nat} (h : SumS key E j fs) (hj : j < E) : SumS key E (j + 1) (fs.set (j + 1) (gt fs (j + 1) + gt fs j)):=
 ⟨by rw [List.length_set]; exact h.fl,fun i hi=>by
  rw [gt_set,h.fl]
  by_cases e : j + 1 = i
  ·subst e
   rw [if_pos ⟨rfl,by omega⟩,h.hi (j + 1) (by omega) (by omega),h.lo j (Nat.le_refl _),cum_succ]; omega
  ·rw [if_neg (fun h=>e h.1)]; exact h.lo i (by omega),fun i h1 h2=>by
  rw [gt_set,if_neg (by omega)]; exact h.hi i (by omega) h2⟩
theorem SumS.fill {key : Nat → Nat} {E L : Nat} {fs : List Nat} (h : SumS key E E fs) : FillS key E L 0 fs (List.replicate E 0):=
 ⟨h.fl,by simp,fun i hi=>by rw [h.lo i hi]; rfl,fun i p _ h1 h2=>by simp only [cntK] at h1; omega,fun a ha=>by omega,fun i p q _ h1 h2 h3=>by simp only [cntK] at h1; omega⟩
end Go.Proofs.YthcoppfiahnpoaaGreat
namespace Go.Proofs.YthcoppfiahnpoaaGreat
open Go Sym
theorem en_sourcesOf : enters Tryz.prog 62 = true:=by kernel_rfl
theorem en_of : enters Tryz.prog 65 = true:=by kernel_rfl
structure SV where
 fs : Value
 ls : Value
abbrev srX (b L : Nat) (V : SV) : Ow:=oX 124 b 3 [Vi L,V.fs,V.ls]
abbrev srR (b L : Nat) (fs ls : List Nat) (V : SV) : List Ow:=[srX b L V,oS V.fs fs,oS V.ls ls]
section
variable {base : Nat} {w0 w : World} {b L tot sb : Nat} {g : GP} {gv : GV} {fs ls : List Nat} {rest : List Ow} {lfs cfs gfs : Nat}
variable {vls : Value}
theorem src_r5 (h : Hold base w0 w (srR sb L fs ls ⟨Vs gfs lfs cfs,vls⟩ ++ (grR b L tot g gv ++ rest))) {i x : Nat} {vx : Value} {n : Nat} (hx : x * L ≤ 100000000) (hL : 0 < L) (hi : i ≤ 100000000) (hk : x * L + i % L < fs.length) (hv : gt fs (x * L + i % L) < 100000000) (hLL : L ≤ 300) {Q : Exit → Act → World → Prop} {a : Act} {ops : Array Oper} {id : Nat} (hops : Sym.regionOf Tryz.f62.body 5 = some (id,ops))
  (hS : St Tryz.f62.ntmps a [(0,Vp b),(3,Vp sb),(4,Vi i),(5,.int .i32 (x : Int)),(32,vx),(33,Vi n),(34,Vi i)])
  (hq : ∀ a' w',St Tryz.f62.ntmps a' [(0,Vp b),(3,Vp sb),(32,vx),(33,Vi n),(34,Vi i)] → Hold base w0 w' (srR sb L (fs.set (x * L + i % L) (gt fs (x * L + i % L) + 1)) ls ⟨Vs gfs lfs cfs,vls⟩ ++ (grR b L tot g gv ++ rest)) → Q .normal a' w') : (Code.region id ops true).wp Tryz.prog Q a w:=by
 cases hops
 refine any_cut 22 [(0,Vp b),(3,Vp sb),(32,vx),(33,Vi n),(34,Vi i)] (fun w'=>Hold base w0 w' (srR sb L (fs.set (x * L + i % L) (gt fs (x * L + i % L) + 1)) ls ⟨Vs gfs lfs cfs,vls⟩ ++ (grR b L tot g gv ++ rest))) mixed hS ?_ hq
 have hy : RowKit.Below w.drew.heap.size w.drew w.drew:=RowKit.Below.refl _ _
 have hD:=h.drew
 have hx1 : x ≤ 100000000:=Nat.le_trans (Nat.le_mul_of_pos_right x hL) hx
 have hm : i % L < L:=Nat.mod_lt _ hL
 have hrem : ((i : Int)).tmod (L : Int) = ((i % L : Nat) : Int):=by
  rw [Int.tmod_eq_emod_of_nonneg (by omega)]; rfl
 have hc:=hD.r.cS (i:=1) rfl hk
 have hlen:=hD.r.lenV (i:=1) rfl
 refine yT 0 tab_ok rfl (by kernel_rfl) hy rfl (rfl) ?_
 refine yT 1 tab_ok rfl (by kernel_rfl) hy rfl (rfl) ?_
 refine yT 2 tab_ok rfl (by kernel_rfl) hy rfl (rfl) ?_
 refine yL 3 tab_ok rfl (by kernel_rfl) hy rfl rfl (hD.r.xcell (i:=0) rfl (j:=1) rfl) ?_
 refine yT 4 tab_ok rfl (by kernel_rfl) hy rfl (rfl) ?_
 refine yT 5 tab_ok rfl (by kernel_rfl) hy rfl (Exists.intro _ (And.intro (i64_in x (by omega)) rfl)) ?_
 refine yT 6 tab_ok rfl (by kernel_rfl) hy rfl (rfl) ?_
 refine yT 7 tab_ok rfl (by kernel_rfl) hy rfl (rfl) ?_
 refine yT 8 tab_ok rfl (by kernel_rfl) hy rfl (rfl) ?_
 refine yL 9 tab_ok rfl (by kernel_rfl) hy rfl rfl (hD.r.xcell (i:=3) rfl (j:=0) rfl) ?_
 refine yT 10 tab_ok rfl (by kernel_rfl) hy rfl (Exists.intro _ (And.intro (i64_mul _ _ (by omega)) rfl)) ?_
 refine yT 11 tab_ok rfl (by kernel_rfl) hy rfl (rfl) ?_
 refine yT 12 tab_ok rfl (by kernel_rfl) hy rfl (rfl) ?_
 refine yT 13 tab_ok rfl (by kernel_rfl) hy rfl (rfl) ?_
 refine yT 14 tab_ok rfl (by kernel_rfl) hy rfl (rfl) ?_
 refine yL 15 tab_ok rfl (by kernel_rfl) hy rfl rfl (hD.r.xcell (i:=3) rfl (j:=0) rfl) ?_
 refine yT 16 tab_ok rfl (by kernel_rfl) hy rfl (And.intro (by omega) (Exists.intro _ (And.intro hrem rfl))) ?_
 have hadd : IntKind.i32.wrap ((gt fs (x * L + i % L) : Int) + 1) = ((gt fs (x * L + i % L) + 1 : Nat) : Int):=i32_in (gt fs (x * L + i % L) + 1) (by omega)
 refine yT 17 tab_ok rfl (by kernel_rfl) hy rfl (Exists.intro _ (And.intro (i64_add _ _ (by omega)) rfl)) ?_
 refine yT 18 tab_ok rfl (by kernel_rfl) hy rfl (Exists.intro _ (And.intro (rfl) (And.intro ((by rw [hlen]; exact hk)) rfl))) ?_
 refine yL 19 tab_ok rfl (by kernel_rfl) hy rfl rfl (hc) ?_
 refine yT 20 tab_ok rfl (by kernel_rfl) hy rfl (Exists.intro _ (And.intro (hadd) rfl)) ?_
 refine yT 21 tab_ok rfl (by kernel_rfl) hy rfl (Exists.intro _ (And.intro (rfl) (And.intro ((by rw [hlen]; exact hk)) rfl))) ?_
 refine y_one 22 (by kernel_rfl) (y_op0 22 tab_ok rfl rfl rfl ?_)
 refine And.intro rfl (And.intro rfl (And.intro ⟨_,hc⟩ (And.intro (hD.r.free (i:=1) rfl _) (And.intro (.inl (by kernel_rfl)) ?_))))
 exact y_end (by kernel_rfl) ⟨rfl,rfl,rfl,rfl,rfl,trivial⟩ (hD.storeS (i:=1) rfl (x * L + i % L) _)
theorem src_r10 (h : Hold base w0 w (srR sb L fs ls ⟨Vs gfs lfs cfs,vls⟩ ++ (grR b L tot g gv ++ rest))) {j n : Nat} {vx : Value} (hj : j + 1 < fs.length) (hv : gt fs (j + 1) + gt fs j ≤ 100000000) (hfl : fs.length ≤ 100000000) {Q : Exit → Act → World → Prop} {a : Act} {ops : Array Oper} {id : Nat} (hops : Sym.regionOf Tryz.f62.body 10 = some (id,ops))
  (hS : St Tryz.f62.ntmps a [(0,Vp b),(3,Vp sb),(6,Vi j),(65,vx),(66,Vi n),(67,Vi j)])
  (hq : ∀ a' w',St Tryz.f62.ntmps a' [(0,Vp b),(3,Vp sb),(65,vx),(66,Vi n),(67,Vi j)] → Hold base w0 w' (srR sb L (fs.set (j + 1) (gt fs (j + 1) + gt fs j)) ls ⟨Vs gfs lfs cfs,vls⟩ ++ (grR b L tot g gv ++ rest)) → Q .normal a' w') : (Code.region id ops true).wp Tryz.prog Q a w:=by
 cases hops
 refine any_cut 17 [(0,Vp b),(3,Vp sb),(65,vx),(66,Vi n),(67,Vi j)] (fun w'=>Hold base w0 w' (srR sb L (fs.set (j + 1) (gt fs (j + 1) + gt fs j)) ls ⟨Vs gfs lfs cfs,vls⟩ ++ (grR b L tot g gv ++ rest))) mixed hS ?_ hq
 have hy : RowKit.Below w.drew.heap.size w.drew w.drew:=RowKit.Below.refl _ _
 have hD:=h.drew
 have hlen:=hD.r.lenV (i:=1) rfl
 have hc1:=hD.r.cS (i:=1) rfl hj
 have hc2:=hD.r.cS (i:=1) rfl (j:=j) (by omega)
 have hadd : IntKind.i32.wrap ((gt fs (j + 1) : Int) + (gt fs j : Int)) = ((gt fs (j + 1) + gt fs j : Nat) : Int):=by rw [← Int.natCast_add]; exact i32_in _ (by omega)
 refine yT 0 tab_ok rfl (by kernel_rfl) hy rfl (rfl) ?_
 refine yT 1 tab_ok rfl (by kernel_rfl) hy rfl (rfl) ?_
 refine yT 2 tab_ok rfl (by kernel_rfl) hy rfl (rfl) ?_
 refine yL 3 tab_ok rfl (by kernel_rfl) hy rfl rfl (hD.r.xcell (i:=0) rfl (j:=1) rfl) ?_
 refine yT 4 tab_ok rfl (by kernel_rfl) hy rfl (rfl) ?_
 refine yT 5 tab_ok rfl (by kernel_rfl) hy rfl (Exists.intro _ (And.intro (i64_add j 1 (by omega)) rfl)) ?_
 refine yT 6 tab_ok rfl (by kernel_rfl) hy rfl (Exists.intro _ (And.intro (rfl) (And.intro ((by rw [hlen]; exact hj)) rfl))) ?_
 refine yL 7 tab_ok rfl (by kernel_rfl) hy rfl rfl (hc1) ?_
 refine yT 8 tab_ok rfl (by kernel_rfl) hy rfl (rfl) ?_
 refine yT 9 tab_ok rfl (by kernel_rfl) hy rfl (rfl) ?_
 refine yT 10 tab_ok rfl (by kernel_rfl) hy rfl (rfl) ?_
 refine yL 11 tab_ok rfl (by kernel_rfl) hy rfl rfl (hD.r.xcell (i:=0) rfl (j:=1) rfl) ?_
 refine yT 12 tab_ok rfl (by kernel_rfl) hy rfl (rfl) ?_
 refine yT 13 tab_ok rfl (by kernel_rfl) hy rfl (Exists.intro _ (And.intro (rfl) (And.intro ((by rw [hlen]; omega)) rfl))) ?_
 refine yL 14 tab_ok rfl (by kernel_rfl) hy rfl rfl (hc2) ?_
 refine yT 15 tab_ok rfl (by kernel_rfl) hy rfl (Exists.intro _ (And.intro (hadd) rfl)) ?_
 refine yT 16 tab_ok rfl (by kernel_rfl) hy rfl (Exists.intro _ (And.intro (rfl) (And.intro ((by rw [hlen]; exact hj)) rfl))) ?_
 refine y_one 17 (by kernel_rfl) (y_op0 17 tab_ok rfl rfl rfl ?_)
 refine And.intro rfl (And.intro rfl (And.intro ⟨_,hc1⟩ (And.intro (hD.r.free (i:=1) rfl _) (And.intro (.inl (by kernel_rfl)) ?_))))
 exact y_end (by kernel_rfl) ⟨rfl,rfl,rfl,rfl,rfl,trivial⟩ (hD.storeS (i:=1) rfl (j + 1) _)
theorem src_r20 (h : Hold base w0 w (srR sb L fs ls ⟨Vs gfs lfs cfs,vls⟩ ++ (grR b L tot g gv ++ rest))) {i n s c : Nat} (hi : i < fs.length) (hv : gt fs i < ls.length) (hs : s ≤ 100000000) {Q : Exit → Act → World → Prop} {a : Act} {ops : Array Oper} {id : Nat} (hops : Sym.regionOf Tryz.f62.body 20 = some (id,ops))
  (hS : St Tryz.f62.ntmps a [(0,Vp b),(3,Vp sb),(9,Vi i),(7,Vi s),(8,Vi c),(92,Vi n),(93,Vi s),(99,Vi L),(100,Vi c)])
  (hq : ∀ a' w',St Tryz.f62.ntmps a' [(0,Vp b),(3,Vp sb),(7,Vi s),(8,Vi c),(92,Vi n),(93,Vi s),(99,Vi L),(100,Vi c)] → Hold base w0 w' (srR sb L fs (ls.set (gt fs i) s) ⟨Vs gfs lfs cfs,vls⟩ ++ (grR b L tot g gv ++ rest)) → Q .normal a' w') : (Code.region id ops true).wp Tryz.prog Q a w:=by
 cases hops
 refine any_cut 14 [(0,Vp b),(3,Vp sb),(7,Vi s),(8,Vi c),(92,Vi n),(93,Vi s),(99,Vi L),(100,Vi c)] (fun w'=>Hold base w0 w' (srR sb L fs (ls.set (gt fs i) s) ⟨Vs gfs lfs cfs,vls⟩ ++ (grR b L tot g gv ++ rest))) mixed hS ?_ hq
 have hy : RowKit.Below w.drew.heap.size w.drew w.drew:=RowKit.Below.refl _ _
 have hD:=h.drew
 obtain ⟨gls,cls,rfl,-⟩:=hD.r.nilOr (i:=2) rfl (by omega)
 have hlen:=hD.r.lenV (i:=1) rfl
 have hlen2:=hD.r.lenV (i:=2) rfl
 have hc1:=hD.r.cS (i:=1) rfl hi
 have hc2:=hD.r.cS (i:=2) rfl hv
 refine yT 0 tab_ok rfl (by kernel_rfl) hy rfl (rfl) ?_
 refine yT 1 tab_ok rfl (by kernel_rfl) hy rfl (rfl) ?_
 refine yT 2 tab_ok rfl (by kernel_rfl) hy rfl (rfl) ?_
 refine yL 3 tab_ok rfl (by kernel_rfl) hy rfl rfl (hD.r.xcell (i:=0) rfl (j:=2) rfl) ?_
 refine yT 4 tab_ok rfl (by kernel_rfl) hy rfl (rfl) ?_
 refine yT 5 tab_ok rfl (by kernel_rfl) hy rfl (rfl) ?_
 refine yT 6 tab_ok rfl (by kernel_rfl) hy rfl (rfl) ?_
 refine yL 7 tab_ok rfl (by kernel_rfl) hy rfl rfl (hD.r.xcell (i:=0) rfl (j:=1) rfl) ?_
 refine yT 8 tab_ok rfl (by kernel_rfl) hy rfl (rfl) ?_
 refine yT 9 tab_ok rfl (by kernel_rfl) hy rfl (Exists.intro _ (And.intro (rfl) (And.intro ((by rw [hlen]; exact hi)) rfl))) ?_
 refine yL 10 tab_ok rfl (by kernel_rfl) hy rfl rfl (hc1) ?_
 refine yT 11 tab_ok rfl (by kernel_rfl) hy rfl (rfl) ?_
 refine yT 12 tab_ok rfl (by kernel_rfl) hy rfl (Exists.intro _ (And.intro (i32_in s (by omega)) rfl)) ?_
 refine yT 13 tab_ok rfl (by kernel_rfl) hy rfl (Exists.intro _ (And.intro (rfl) (And.intro ((by rw [hlen2]; exact hv)) rfl))) ?_
 refine y_one 14 (by kernel_rfl) (y_op0 14 tab_ok rfl rfl rfl ?_)
 refine And.intro rfl (And.intro rfl (And.intro ⟨_,hc2⟩ (And.intro (hD.r.free (i:=2) rfl _) (And.intro (.inl (by kernel_rfl)) ?_))))
 exact y_end (by kernel_rfl) ⟨rfl,rfl,rfl,rfl,rfl,rfl,rfl,rfl,trivial⟩ (hD.storeS (i:=2) rfl (gt fs i) s)
theorem src_r19 (h : Hold base w0 w (srR sb L fs ls ⟨Vs gfs lfs cfs,vls⟩ ++ (grR b L tot g gv ++ rest))) {i n s c : Nat} (hi : i < fs.length) (hv : 0 < gt fs i) (hv2 : gt fs i ≤ 100000000) {Q : Exit → Act → World → Prop} {a : Act} {ops : Array Oper} {id : Nat} (hops : Sym.regionOf Tryz.f62.body 19 = some (id,ops))
  (hS : St Tryz.f62.ntmps a [(0,Vp b),(3,Vp sb),(9,Vi i),(7,Vi s),(8,Vi c),(92,Vi n),(93,Vi s),(99,Vi L),(100,Vi c)])
  (hq : ∀ a' w',St Tryz.f62.ntmps a' [(0,Vp b),(3,Vp sb),(9,Vi i),(7,Vi s),(8,Vi c),(92,Vi n),(93,Vi s),(99,Vi L),(100,Vi c)] → Hold base w0 w' (srR sb L (fs.set i (gt fs i - 1)) ls ⟨Vs gfs lfs cfs,vls⟩ ++ (grR b L tot g gv ++ rest)) → Q .normal a' w') : (Code.region id ops false).wp Tryz.prog Q a w:=by
 cases hops
 refine seq_cut [(0,Vp b),(3,Vp sb),(9,Vi i),(7,Vi s),(8,Vi c),(92,Vi n),(93,Vi s),(99,Vi L),(100,Vi c)] (fun w'=>Hold base w0 w' (srR sb L (fs.set i (gt fs i - 1)) ls ⟨Vs gfs lfs cfs,vls⟩ ++ (grR b L tot g gv ++ rest))) tab_ok hS ?_ hq
 have hlen:=h.r.lenV (i:=1) rfl
 have hc1:=h.r.cS (i:=1) rfl hi
 have hsub : IntKind.i32.wrap ((gt fs i : Int) - 1) = ((gt fs i - 1 : Nat) : Int):=by
  rw [show (gt fs i : Int) - 1 = ((gt fs i - 1 : Nat) : Int) by omega]; exact i32_in _ (by omega)
 repeat first|refine zP rfl ?_|refine zK rfl ?_
 refine zL rfl (h.r.xcell (i:=0) rfl (j:=1) rfl) ?_
 repeat first|refine zP rfl ?_|refine zK rfl ?_
 refine zI rfl (rfl) ((by rw [hlen]; exact hi)) ?_
 refine zL rfl (hc1) ?_
 refine zN rfl (hsub) ?_
 refine zI rfl (rfl) ((by rw [hlen]; exact hi)) ?_
 refine zS rfl rfl (hc1) (h.r.free (i:=1) rfl _) ?_
 exact o_nil ⟨⟨rfl,rfl,rfl,rfl,rfl,rfl,rfl,rfl,rfl,trivial⟩,h.storeS (i:=1) rfl i _⟩
end
section
variable {base : Nat} {w0 w : World} {b L tot sb : Nat} {g : GP} {gv : GV} {fs ls : List Nat} {rest : List Ow} {N : Nat}
theorem sourcesOf_any (h : Hold base w0 w (grR b L tot g gv ++ rest)) (hg : Gr N L g.nx g.en) (hN : N ≤ 100000) (hL : L ≤ 300) :
  Calls Tryz.prog 62 #[Vp b] w fun e w'=>∃ sb fs ls V,e = .returned (Vp sb) ∧ SrcOk N L g.nx fs ls ∧ Hold base w0 w' (srR sb L fs ls V ++ (grR b L tot g gv ++ rest)):=by
 obtain ⟨vst,vnx,ven⟩:=gv
 refine Sym.enter (args:=[Vp b]) Tryz.func62 rfl rfl rfl (fun a0 hS0=>?_)
 have hE : N * L ≤ 100000 * 300:=Nat.mul_le_mul hN hL
 have hlen:=hg.len
 obtain ⟨E,hEE⟩ : ∃ E,E = N * L:=⟨_,rfl⟩
 rw [← hEE] at hE hlen
 obtain ⟨gn,cn,rfl,-⟩:=h.r.any (i:=2) rfl
 obtain ⟨ge,ce,rfl,-⟩:=h.r.any (i:=3) rfl
 refine wp_seq (seq_cut [(0,Vp b)] (· = w) tab_ok hS0 ?_ (fun a w1 hS hw=>?_))
 ·repeat first|refine zP rfl ?_|refine zK rfl ?_
  exact o_nil ⟨⟨rfl,trivial⟩,rfl⟩
 subst hw
 refine wp_seq (any_cutx (α:=Nat × SV) 20 (fun x=>[(0,Vp b),(3,Vp x.1)]) (fun x w'=>Hold base w0 w' (srR x.1 L (List.replicate (g.nx.length + 1) 0) (List.replicate g.nx.length 0) x.2 ++ (grR b L tot g ⟨vst,.slice gn g.nx.length cn,.slice ge g.en.length ce⟩ ++ rest))) mixed hS ?_ (fun x a w2 hS h=>?_))
 ·have hy : RowKit.Below w1.drew.heap.size w1.drew w1.drew:=RowKit.Below.refl _ _
  have hD:=h.drew
  refine yT 0 tab_ok rfl (by kernel_rfl) hy rfl (rfl) ?_
  refine yT 1 tab_ok rfl (by kernel_rfl) hy rfl (rfl) ?_
  refine yT 2 tab_ok rfl (by kernel_rfl) hy rfl (rfl) ?_
  refine yL 3 tab_ok rfl (by kernel_rfl) hy rfl rfl (hD.r.xcell (i:=0) rfl (j:=0) rfl) ?_
  refine yT 4 tab_ok rfl (by kernel_rfl) hy rfl (rfl) ?_
  refine yT 5 tab_ok rfl (by kernel_rfl) hy rfl (rfl) ?_
  refine yT 6 tab_ok rfl (by kernel_rfl) hy rfl (rfl) ?_
  refine yL 7 tab_ok rfl (by kernel_rfl) hy rfl rfl (hD.r.xcell (i:=0) rfl (j:=2) rfl) ?_
  refine yT 8 tab_ok rfl (by kernel_rfl) hy rfl (rfl) ?_
  refine yT 9 tab_ok rfl (by kernel_rfl) hy rfl (Exists.intro _ (And.intro (i64_add _ 1 (by omega)) rfl)) ?_
  refine yT 11 tab_ok rfl (by kernel_rfl) hy rfl (rfl) ?_
  refine yT 12 tab_ok rfl (by kernel_rfl) hy rfl (rfl) ?_
  refine yT 13 tab_ok rfl (by kernel_rfl) hy rfl (rfl) ?_
  refine yL 14 tab_ok rfl (by kernel_rfl) hy rfl rfl (hD.r.xcell (i:=0) rfl (j:=2) rfl) ?_
  refine yT 15 tab_ok rfl (by kernel_rfl) hy rfl (rfl) ?_
  refine y_two 10 16 (by kernel_rfl) (y_op 10 tab_ok rfl rfl rfl rfl ?_) (y_op 16 tab_ok rfl rfl rfl rfl ?_)
  ·refine Exists.intro (g.nx.length + 1) (Exists.intro (g.nx.length + 1) (And.intro rfl (And.intro rfl (And.intro (Nat.le_refl _) (And.intro rfl (And.intro rfl (And.intro (by show 4 * _ ≤ _; omega) (And.intro (by omega) ?_))))))))
   have h1:=hD.makeS (n:=g.nx.length + 1) (by omega)
   have hy1:=hy.alloc hy.size (.cells (madeCells #[.int .i32 0] (g.nx.length + 1)) 21)
   refine And.intro (.inr hy1) ?_
   refine y_one 16 (by kernel_rfl) (y_op 16 tab_ok rfl rfl rfl rfl ?_)
   refine Exists.intro (g.nx.length) (Exists.intro (g.nx.length) (And.intro rfl (And.intro rfl (And.intro (Nat.le_refl _) (And.intro rfl (And.intro rfl (And.intro (by show 4 * _ ≤ _; omega) (And.intro (by omega) ?_))))))))
   have h2:=h1.makeS (n:=g.nx.length) (by omega)
   have hy2:=hy1.alloc hy1.size (.cells (madeCells #[.int .i32 0] (g.nx.length)) 21)
   refine And.intro (.inr hy2) ?_
   refine yT 17 tab_ok rfl (by kernel_rfl) hy2 rfl (rfl) ?_
   refine y_one 18 (by kernel_rfl) (y_op 18 tab_ok rfl rfl rfl rfl ?_)
   have h3:=h2.box (T:=124) (k:=3) #[Vi L,(Vs w1.drew.heap.size (g.nx.length + 1) (g.nx.length + 1)),(Vs (w1.drew.alloc (.cells (madeCells #[.int .i32 0] (g.nx.length + 1)) 21)).heap.size g.nx.length g.nx.length)] rfl
   have hy3:=hy2.alloc hy2.size (.cells #[Vi L,(Vs w1.drew.heap.size (g.nx.length + 1) (g.nx.length + 1)),(Vs (w1.drew.alloc (.cells (madeCells #[.int .i32 0] (g.nx.length + 1)) 21)).heap.size g.nx.length g.nx.length)] 124)
   refine And.intro (.inr hy3) ?_
   refine yT 19 tab_ok rfl (by kernel_rfl) hy3 rfl (rfl) ?_
   refine y_endx (((w1.drew.alloc (.cells (madeCells #[.int .i32 0] (g.nx.length + 1)) 21)).alloc (.cells (madeCells #[.int .i32 0] g.nx.length) 21)).heap.size,⟨(Vs w1.drew.heap.size (g.nx.length + 1) (g.nx.length + 1)),(Vs (w1.drew.alloc (.cells (madeCells #[.int .i32 0] (g.nx.length + 1)) 21)).heap.size g.nx.length g.nx.length)⟩) (by kernel_rfl) ⟨rfl,rfl,trivial⟩ (h3.perm ?_)
   exact .cons _ (.swap _ _ _)
  ·refine Exists.intro (g.nx.length) (Exists.intro (g.nx.length) (And.intro rfl (And.intro rfl (And.intro (Nat.le_refl _) (And.intro rfl (And.intro rfl (And.intro (by show 4 * _ ≤ _; omega) (And.intro (by omega) ?_))))))))
   have h1:=hD.makeS (n:=g.nx.length) (by omega)
   have hy1:=hy.alloc hy.size (.cells (madeCells #[.int .i32 0] g.nx.length) 21)
   refine And.intro (.inr hy1) ?_
   refine y_one 10 (by kernel_rfl) (y_op 10 tab_ok rfl rfl rfl rfl ?_)
   refine Exists.intro (g.nx.length + 1) (Exists.intro (g.nx.length + 1) (And.intro rfl (And.intro rfl (And.intro (Nat.le_refl _) (And.intro rfl (And.intro rfl (And.intro (by show 4 * _ ≤ _; omega) (And.intro (by omega) ?_))))))))
   have h2:=h1.makeS (n:=g.nx.length + 1) (by omega)
   have hy2:=hy1.alloc hy1.size (.cells (madeCells #[.int .i32 0] (g.nx.length + 1)) 21)
   refine And.intro (.inr hy2) ?_
   refine yT 17 tab_ok rfl (by kernel_rfl) hy2 rfl (rfl) ?_
   refine y_one 18 (by kernel_rfl) (y_op 18 tab_ok rfl rfl rfl rfl ?_)
   have h3:=h2.box (T:=124) (k:=3) #[Vi L,(Vs (w1.drew.alloc (.cells (madeCells #[.int .i32 0] g.nx.length) 21)).heap.size (g.nx.length + 1) (g.nx.length + 1)),(Vs w1.drew.heap.size g.nx.length g.nx.length)] rfl
   have hy3:=hy2.alloc hy2.size (.cells #[Vi L,(Vs (w1.drew.alloc (.cells (madeCells #[.int .i32 0] g.nx.length) 21)).heap.size (g.nx.length + 1) (g.nx.length + 1)),(Vs w1.drew.heap.size g.nx.length g.nx.length)] 124)
   refine And.intro (.inr hy3) ?_
   refine yT 19 tab_ok rfl (by kernel_rfl) hy3 rfl (rfl) ?_
   exact y_endx (((w1.drew.alloc (.cells (madeCells #[.int .i32 0] g.nx.length) 21)).alloc (.cells (madeCells #[.int .i32 0] (g.nx.length + 1)) 21)).heap.size,⟨(Vs (w1.drew.alloc (.cells (madeCells #[.int .i32 0] g.nx.length) 21)).heap.size (g.nx.length + 1) (g.nx.length + 1)),(Vs w1.drew.heap.size g.nx.length g.nx.length)⟩) (by kernel_rfl) ⟨rfl,rfl,trivial⟩ h3
 obtain ⟨sb,⟨vfs,vls⟩⟩:=x
 simp only at hS h
 rw [hlen] at h
 obtain ⟨gfs,cfs,rfl,-⟩:=h.r.nilOr (i:=1) rfl (by simp)
 have hk : ∀ a,a < E → keyG g.nx L a < E:=fun a ha=>by rw [hEE]; exact keyG_lt hg (by rw [← hEE]; exact ha)
 obtain ⟨lfs,hlfs⟩ : ∃ x,x = (List.replicate (E + 1) 0).length:=⟨_,rfl⟩
 rw [← hlfs] at h
 obtain ⟨GVa,hGV⟩ : ∃ V : GV,V = ⟨vst,.slice gn E cn,.slice ge g.en.length ce⟩:=⟨_,rfl⟩
 have hgl:=hg.enl
 rw [hlen,← hGV]
 rw [← hGV] at h
 refine wp_seq (cut (F:=fun a' w'=>St Tryz.f62.ntmps a' [(0,Vp b),(3,Vp sb)] ∧ ∃ fs,CntS (keyG g.nx L) E E fs ∧ Hold base w0 w' (srR sb L fs (List.replicate E 0) ⟨Vs gfs lfs cfs,vls⟩ ++ (grR b L tot g GVa ++ rest))) ?_ ?_)
 ·refine wp_seq (seq_cut [(0,Vp b),(3,Vp sb),(32,.slice gn E cn),(33,Vi E),(34,Vi (0 : Nat))] (· = w2) tab_ok hS ?_ (fun a w3 hS hw=>?_))
  ·subst hGV
   repeat first|refine zP rfl ?_|refine zK rfl ?_
   refine zL rfl (h.r.xcell (i:=3) rfl (j:=2) rfl) ?_
   repeat first|refine zP rfl ?_|refine zK rfl ?_
   exact o_nil ⟨⟨rfl,rfl,rfl,rfl,rfl,trivial⟩,rfl⟩
  subst hw
  refine wp_block (loop0 hS (fun γ E' w'=>∃ (k : Nat) (fs : List Nat),k ≤ E ∧ γ = E - k ∧ E' = [(0,Vp b),(3,Vp sb),(32,.slice gn E cn),(33,Vi E),(34,Vi k)] ∧ CntS (keyG g.nx L) E k fs ∧ Hold base w0 w' (srR sb L fs (List.replicate E 0) ⟨Vs gfs lfs cfs,vls⟩ ++ (grR b L tot g GVa ++ rest))) E
   ⟨0,_,by omega,by omega,rfl,⟨by simp,fun i hi=>by rw [gt_rep (by omega)]; rfl⟩,h⟩ ?_)
  clear h hS
  rintro γ E' w4 a ⟨k,fs,hk1,rfl,rfl,hC,h⟩ hS
  refine wp_seq (seq_cut [(0,Vp b),(3,Vp sb),(32,.slice gn E cn),(33,Vi E),(34,Vi k),(35,.bool (decide (k < E)))] (· = w4) tab_ok hS ?_ (fun a w5 hS hw=>?_))
  ·repeat first|refine zP rfl ?_|refine zK rfl ?_
   refine zC rfl (lt_nat _ _) ?_
   repeat first|refine zP rfl ?_|refine zK rfl ?_
   exact o_nil ⟨⟨rfl,rfl,rfl,rfl,rfl,rfl,trivial⟩,rfl⟩
  subst hw
  refine wp_seq (cond hS rfl (fun hT=>wp_skip ?_) (fun hF=>?_))
  rotate_left
  ·have hkk : k = E:=by have:=of_decide_eq_false hF; omega
   subst hkk
   refine wp_exit ?_
   repeat (first | refine then_exit ?_ | refine block_exit ?_ | refine block_other rfl ?_)
   exact ⟨hS.sub ⟨rfl,rfl,trivial⟩,fs,hC,h⟩
  have hkk : k < E:=of_decide_eq_true hT
  have hkey:=hk k hkk
  have hL0 : 0 < L:=by
   rcases Nat.eq_zero_or_pos L with h | h
   ·subst h; omega
   ·exact h
  have hx : gt g.nx k < N:=by
   have h1:=hg.lt (k / L) (k % L) (Nat.div_lt_of_lt_mul (by rw [Nat.mul_comm,← hEE]; exact hkk)) (Nat.mod_lt _ hL0)
   rwa [show k / L * L + k % L = k by rw [Nat.mul_comm]; exact Nat.div_add_mod k L] at h1
  have hxL : gt g.nx k * L ≤ N * L:=Nat.mul_le_mul_right _ (by omega)
  refine wp_seq (wp_block (wp_seq (seq_cut [(0,Vp b),(3,Vp sb),(4,Vi k),(5,.int .i32 (gt g.nx k : Int)),(32,.slice gn E cn),(33,Vi E),(34,Vi k)] (· = w5) tab_ok hS ?_ (fun a w6 hS hw=>?_))))
  ·subst hGV
   obtain ⟨gn',cn',e,-⟩:=h.r.nilOr (i:=5) rfl (by omega)
   simp only [Value.slice.injEq] at e
   obtain ⟨rfl,-,rfl⟩:=e
   have hc:=h.r.cS (i:=5) rfl (j:=k) (by omega)
   repeat first|refine zP rfl ?_|refine zK rfl ?_
   refine zI rfl (rfl) (hkk) ?_
   refine zL rfl (hc) ?_
   repeat first|refine zP rfl ?_|refine zK rfl ?_
   exact o_nil ⟨⟨rfl,rfl,rfl,rfl,rfl,rfl,rfl,trivial⟩,rfl⟩
  subst hw
  have hfl:=hC.fl
  have hval : gt fs (keyG g.nx L k) ≤ k:=by
   rw [hC.f _ (by omega)]; exact Nat.le_trans (cnt_le_cum _ _) (cum_le _ _)
  refine src_r5 h (by omega) hL0 (by omega) (show keyG g.nx L k < _ by omega) (show gt fs (keyG g.nx L k) < _ by omega) hL (by rfl) hS (fun a w7 hS h=>?_)
  refine block_normal ?_
  refine seq_cut [(0,Vp b),(3,Vp sb),(32,.slice gn E cn),(33,Vi E),(34,Vi (k + 1 : Nat))] (· = w7) tab_ok hS ?_ (fun a w8 hS hw=>?_)
  ·repeat first|refine zP rfl ?_|refine zK rfl ?_
   refine zN rfl (i64_add _ 1 (by omega)) ?_
   repeat first|refine zP rfl ?_|refine zK rfl ?_
   exact o_nil ⟨⟨rfl,rfl,rfl,rfl,rfl,trivial⟩,rfl⟩
  subst hw
  exact ⟨E - (k + 1),_,by omega,⟨k + 1,_,by omega,rfl,rfl,hC.step hkey,h⟩,hS⟩
 clear h hS
 rintro a w3 ⟨hS,fs,hC,h⟩
 have hS1:=hC.sum
 refine wp_seq (cut (F:=fun a' w'=>St Tryz.f62.ntmps a' [(0,Vp b),(3,Vp sb)] ∧ ∃ fs,SumS (keyG g.nx L) E E fs ∧ Hold base w0 w' (srR sb L fs (List.replicate E 0) ⟨Vs gfs lfs cfs,vls⟩ ++ (grR b L tot g GVa ++ rest))) ?_ ?_)
 ·refine wp_seq (seq_cut [(0,Vp b),(3,Vp sb),(65,.slice gn E cn),(66,Vi E),(67,Vi (0 : Nat))] (· = w3) tab_ok hS ?_ (fun a w4 hS hw=>?_))
  ·subst hGV
   repeat first|refine zP rfl ?_|refine zK rfl ?_
   refine zL rfl (h.r.xcell (i:=3) rfl (j:=2) rfl) ?_
   repeat first|refine zP rfl ?_|refine zK rfl ?_
   exact o_nil ⟨⟨rfl,rfl,rfl,rfl,rfl,trivial⟩,rfl⟩
  subst hw
  refine wp_block (loop0 hS (fun γ E' w'=>∃ (k : Nat) (fs : List Nat),k ≤ E ∧ γ = E - k ∧ E' = [(0,Vp b),(3,Vp sb),(65,.slice gn E cn),(66,Vi E),(67,Vi k)] ∧ SumS (keyG g.nx L) E k fs ∧ Hold base w0 w' (srR sb L fs (List.replicate E 0) ⟨Vs gfs lfs cfs,vls⟩ ++ (grR b L tot g GVa ++ rest))) E
   ⟨0,_,by omega,by omega,rfl,hS1,h⟩ ?_)
  clear h hS hS1 hC
  clear fs
  rintro γ E' w5 a ⟨k,fs,hk1,rfl,rfl,hC,h⟩ hS
  refine wp_seq (seq_cut [(0,Vp b),(3,Vp sb),(65,.slice gn E cn),(66,Vi E),(67,Vi k),(68,.bool (decide (k < E)))] (· = w5) tab_ok hS ?_ (fun a w6 hS hw=>?_))
  ·repeat first|refine zP rfl ?_|refine zK rfl ?_
   refine zC rfl (lt_nat _ _) ?_
   repeat first|refine zP rfl ?_|refine zK rfl ?_
   exact o_nil ⟨⟨rfl,rfl,rfl,rfl,rfl,rfl,trivial⟩,rfl⟩
  subst hw
  refine wp_seq (cond hS rfl (fun hT=>wp_skip ?_) (fun hF=>?_))
  rotate_left
  ·have hkk : k = E:=by have:=of_decide_eq_false hF; omega
   subst hkk
   refine wp_exit ?_
   repeat (first | refine then_exit ?_ | refine block_exit ?_ | refine block_other rfl ?_)
   exact ⟨hS.sub ⟨rfl,rfl,trivial⟩,fs,hC,h⟩
  have hkk : k < E:=of_decide_eq_true hT
  have hfl:=hC.fl
  have hval : gt fs (k + 1) + gt fs k ≤ E:=by
   rw [hC.hi (k + 1) (by omega) (by omega),hC.lo k (Nat.le_refl _),Nat.add_comm,← cum_succ]
   exact cum_le _ _
  refine wp_seq (wp_block (wp_seq (seq_cut [(0,Vp b),(3,Vp sb),(6,Vi k),(65,.slice gn E cn),(66,Vi E),(67,Vi k)] (· = w6) tab_ok hS ?_ (fun a w7 hS hw=>?_))))
  ·repeat first|refine zP rfl ?_|refine zK rfl ?_
   exact o_nil ⟨⟨rfl,rfl,rfl,rfl,rfl,rfl,trivial⟩,rfl⟩
  subst hw
  refine src_r10 h (by omega) (by omega) (by omega) (by rfl) hS (fun a w8 hS h=>?_)
  refine block_normal ?_
  refine seq_cut [(0,Vp b),(3,Vp sb),(65,.slice gn E cn),(66,Vi E),(67,Vi (k + 1 : Nat))] (· = w8) tab_ok hS ?_ (fun a w9 hS hw=>?_)
  ·repeat first|refine zP rfl ?_|refine zK rfl ?_
   refine zN rfl (i64_add _ 1 (by omega)) ?_
   repeat first|refine zP rfl ?_|refine zK rfl ?_
   exact o_nil ⟨⟨rfl,rfl,rfl,rfl,rfl,trivial⟩,rfl⟩
  subst hw
  exact ⟨E - (k + 1),_,by omega,⟨k + 1,_,by omega,rfl,rfl,hC.step hkk,h⟩,hS⟩
 clear h hS hS1 hC
 clear fs
 rintro a w4 ⟨hS,fs,hC,h⟩
 have hF0:=hC.fill (L:=L)
 refine wp_seq (cut (F:=fun a' w'=>St Tryz.f62.ntmps a' [(0,Vp b),(3,Vp sb)] ∧ ∃ fs ls,FillS (keyG g.nx L) E L (N * L) fs ls ∧ Hold base w0 w' (srR sb L fs ls ⟨Vs gfs lfs cfs,vls⟩ ++ (grR b L tot g GVa ++ rest))) ?_ ?_)
 ·refine wp_seq (seq_cut [(0,Vp b),(3,Vp sb),(92,Vi N),(93,Vi (0 : Nat))] (· = w4) tab_ok hS ?_ (fun a w5 hS hw=>?_))
  ·subst hGV
   subst hgl
   repeat first|refine zP rfl ?_|refine zK rfl ?_
   refine zL rfl (h.r.xcell (i:=3) rfl (j:=3) rfl) ?_
   repeat first|refine zP rfl ?_|refine zK rfl ?_
   exact o_nil ⟨⟨rfl,rfl,rfl,rfl,trivial⟩,rfl⟩
  subst hw
  refine wp_block (loop0 hS (fun γ E' w'=>∃ (s : Nat) (fs ls : List Nat),s ≤ N ∧ γ = N - s ∧ E' = [(0,Vp b),(3,Vp sb),(92,Vi N),(93,Vi s)] ∧ FillS (keyG g.nx L) E L (s * L) fs ls ∧ Hold base w0 w' (srR sb L fs ls ⟨Vs gfs lfs cfs,vls⟩ ++ (grR b L tot g GVa ++ rest))) N
   ⟨0,_,_,by omega,by omega,rfl,by rw [Nat.zero_mul]; exact hF0,h⟩ ?_)
  clear h hS hC hF0
  clear fs
  rintro γ E' w6 a ⟨s,fs,ls,hs1,rfl,rfl,hC,h⟩ hS
  refine wp_seq (seq_cut [(0,Vp b),(3,Vp sb),(92,Vi N),(93,Vi s),(94,.bool (decide (s < N)))] (· = w6) tab_ok hS ?_ (fun a w7 hS hw=>?_))
  ·repeat first|refine zP rfl ?_|refine zK rfl ?_
   refine zC rfl (lt_nat _ _) ?_
   repeat first|refine zP rfl ?_|refine zK rfl ?_
   exact o_nil ⟨⟨rfl,rfl,rfl,rfl,rfl,trivial⟩,rfl⟩
  subst hw
  refine wp_seq (cond hS rfl (fun hT=>wp_skip ?_) (fun hF=>?_))
  rotate_left
  ·have hss : s = N:=by have:=of_decide_eq_false hF; omega
   subst hss
   refine wp_exit ?_
   repeat (first | refine then_exit ?_ | refine block_exit ?_ | refine block_other rfl ?_)
   exact ⟨hS.sub ⟨rfl,rfl,trivial⟩,fs,ls,hC,h⟩
  have hss : s < N:=of_decide_eq_true hT
  refine wp_seq (wp_block (wp_seq (seq_cut [(0,Vp b),(3,Vp sb),(7,Vi s),(92,Vi N),(93,Vi s)] (· = w7) tab_ok hS ?_ (fun a w8 hS hw=>?_))))
  ·repeat first|refine zP rfl ?_|refine zK rfl ?_
   exact o_nil ⟨⟨rfl,rfl,rfl,rfl,rfl,trivial⟩,rfl⟩
  subst hw
  refine wp_seq (seq_cut [(0,Vp b),(3,Vp sb),(7,Vi s),(92,Vi N),(93,Vi s),(99,Vi L),(100,Vi (0 : Nat))] (· = w8) tab_ok hS ?_ (fun a w9 hS hw=>?_))
  ·repeat first|refine zP rfl ?_|refine zK rfl ?_
   refine zL rfl (h.r.xcell (i:=3) rfl (j:=0) rfl) ?_
   repeat first|refine zP rfl ?_|refine zK rfl ?_
   exact o_nil ⟨⟨rfl,rfl,rfl,rfl,rfl,rfl,rfl,trivial⟩,rfl⟩
  subst hw
  refine wp_block (loop0 hS (fun γ E' w'=>∃ (c : Nat) (fs ls : List Nat),c ≤ L ∧ γ = L - c ∧ E' = [(0,Vp b),(3,Vp sb),(7,Vi s),(92,Vi N),(93,Vi s),(99,Vi L),(100,Vi c)] ∧ FillS (keyG g.nx L) E L (s * L + c) fs ls ∧ Hold base w0 w' (srR sb L fs ls ⟨Vs gfs lfs cfs,vls⟩ ++ (grR b L tot g GVa ++ rest))) L
   ⟨0,_,_,by omega,by omega,rfl,hC,h⟩ ?_)
  clear h hS hC
  clear fs ls
  rintro γ E' w10 a ⟨c,fs,ls,hc1,rfl,rfl,hC,h⟩ hS
  refine wp_seq (seq_cut [(0,Vp b),(3,Vp sb),(7,Vi s),(92,Vi N),(93,Vi s),(99,Vi L),(100,Vi c),(101,.bool (decide (c < L)))] (· = w10) tab_ok hS ?_ (fun a w11 hS hw=>?_))
  ·repeat first|refine zP rfl ?_|refine zK rfl ?_
   refine zC rfl (lt_nat _ _) ?_
   repeat first|refine zP rfl ?_|refine zK rfl ?_
   exact o_nil ⟨⟨rfl,rfl,rfl,rfl,rfl,rfl,rfl,rfl,trivial⟩,rfl⟩
  subst hw
  refine wp_seq (cond hS rfl (fun hT=>wp_skip ?_) (fun hF=>?_))
  rotate_left
  ·have hcc : c = L:=by have:=of_decide_eq_false hF; omega
   subst hcc
   refine wp_exit ?_
   repeat (first | refine then_exit ?_ | refine block_exit ?_ | refine block_other rfl ?_)
   refine block_normal ?_
   refine seq_cut [(0,Vp b),(3,Vp sb),(92,Vi N),(93,Vi (s + 1 : Nat))] (· = w11) tab_ok hS ?_ (fun a w12 hS hw=>?_)
   ·repeat first|refine zP rfl ?_|refine zK rfl ?_
    refine zN rfl (i64_add _ 1 (by omega)) ?_
    repeat first|refine zP rfl ?_|refine zK rfl ?_
    exact o_nil ⟨⟨rfl,rfl,rfl,rfl,trivial⟩,rfl⟩
   subst hw
   refine ⟨N - (s + 1),_,by omega,⟨s + 1,fs,ls,by omega,rfl,rfl,?_,h⟩,hS⟩
   rw [Nat.succ_mul]; exact hC
  have hcc : c < L:=of_decide_eq_true hT
  have hkE : s * L + c < E:=by
   have : (s + 1) * L ≤ N * L:=Nat.mul_le_mul_right _ hss
   rw [Nat.succ_mul] at this
   omega
  obtain ⟨k,hkk⟩ : ∃ k,k = s * L + c:=⟨_,rfl⟩
  have hd : dlG g.nx L s c < N:=hg.lt s c hss hcc
  have hkey : dlG g.nx L s c * L + c = keyG g.nx L k:=by
   unfold keyG
   rw [hkk,(pack hcc).2]
  have hkeyE:=hk k (by omega)
  obtain ⟨i,hi⟩ : ∃ i,i = keyG g.nx L k:=⟨_,rfl⟩
  have hdL : dlG g.nx L s c * L ≤ N * L:=Nat.mul_le_mul_right _ (by omega)
  refine wp_seq (wp_block (wp_seq (seq_cut [(0,Vp b),(3,Vp sb),(7,Vi s),(8,Vi c),(92,Vi N),(93,Vi s),(99,Vi L),(100,Vi c)] (· = w11) tab_ok hS ?_ (fun a w12 hS hw=>?_))))
  ·repeat first|refine zP rfl ?_|refine zK rfl ?_
   exact o_nil ⟨⟨rfl,rfl,rfl,rfl,rfl,rfl,rfl,rfl,trivial⟩,rfl⟩
  subst hw
  refine wp_seq (quiet_cut [(0,Vp b),(3,Vp sb),(9,Vi i),(7,Vi s),(8,Vi c),(92,Vi N),(93,Vi s),(99,Vi L),(100,Vi c)] tab_ok mixed (by kernel_rfl) hS ?_ (fun a w13 hS hw=>?_))
  ·have hperm : ∀ w1,RowKit.Below w12.heap.size w12 w1 → Hold base w0 w1 (grR b L tot g GVa ++ (srR sb L fs ls ⟨Vs gfs lfs cfs,vls⟩ ++ rest)):=fun w1 h1=>(h.below h1).perm (by
    have:=(List.perm_append_comm (l₁:=srR sb L fs ls ⟨Vs gfs lfs cfs,vls⟩) (l₂:=grR b L tot g GVa)).append_right rest
    rwa [List.append_assoc,List.append_assoc] at this)
   have e2 : IntKind.i64.wrap (((dlG g.nx L s c * L : Nat) : Int) + (c : Int)) = (i : Int):=by
    rw [hi,← hkey]; exact i64_add _ _ (by omega)
   repeat first|refine qP rfl ?_|refine qK rfl ?_
   refine qF (Vi (dlG g.nx L s c : Int)) rfl (en_gfollow) (fun w1 h1=>gfollow_any (hperm w1 h1) (by omega) (by omega) (by omega)) ?_
   repeat first|refine qP rfl ?_|refine qK rfl ?_
   refine qL rfl (h.r.xcell (i:=3) rfl (j:=0) rfl) ?_
   refine qN rfl (i64_mul _ _ (by omega)) ?_
   repeat first|refine qP rfl ?_|refine qK rfl ?_
   refine qN rfl (e2) ?_
   repeat first|refine qP rfl ?_|refine qK rfl ?_
   exact q_nil ⟨rfl,rfl,rfl,rfl,rfl,rfl,rfl,rfl,rfl,trivial⟩
  replace h:=h.below hw
  clear hw
  rw [← hkk] at hC
  have hat:=hC.at (by omega) hkeyE
  have hfl:=hC.fl
  have hll:=hC.ll
  rw [← hi] at hat hkeyE
  refine wp_seq (src_r19 h (by omega) hat.1 (by omega) (by rfl) hS (fun a w14 hS h=>?_))
  have hself : gt (fs.set i (gt fs i - 1)) i = gt fs i - 1:=by rw [gt_set,if_pos ⟨rfl,by omega⟩]
  refine src_r20 h (by rw [List.length_set]; omega) (by rw [hself]; omega) (by omega) (by rfl) hS (fun a w15 hS h=>?_)
  rw [hself] at h
  have hst:=hC.step (by omega) (by rw [← hi]; exact hkeyE) (fun a ha e e2=>by
   have e3 : a % L = k % L:=by
    have h1 : keyG g.nx L a % L = a % L:=(pack (Nat.mod_lt a (show 0 < L by omega))).2
    have h2 : keyG g.nx L k % L = k % L:=(pack (Nat.mod_lt k (show 0 < L by omega))).2
    rw [← h1,← h2,e]
   have h1:=Nat.div_add_mod a L
   have h2:=Nat.div_add_mod k L
   rw [e2,e3] at h1
   omega)
  rw [← hi,show k / L = s by rw [hkk]; exact (pack hcc).1] at hst
  refine block_normal ?_
  refine seq_cut [(0,Vp b),(3,Vp sb),(7,Vi s),(92,Vi N),(93,Vi s),(99,Vi L),(100,Vi (c + 1 : Nat))] (· = w15) tab_ok hS ?_ (fun a w16 hS hw=>?_)
  ·repeat first|refine zP rfl ?_|refine zK rfl ?_
   refine zN rfl (i64_add _ 1 (by omega)) ?_
   repeat first|refine zP rfl ?_|refine zK rfl ?_
   exact o_nil ⟨⟨rfl,rfl,rfl,rfl,rfl,rfl,rfl,trivial⟩,rfl⟩
  subst hw
  refine ⟨L - (c + 1),_,by omega,⟨c + 1,_,_,by omega,rfl,rfl,?_,h⟩,hS⟩
  rw [← Nat.add_assoc,← hkk]; exact hst
 clear h hS hC hF0
 clear fs
 rintro a w5 ⟨hS,fs,ls,hC,h⟩
 refine wp_seq (seq_cut [(2,Vp sb)] (· = w5) tab_ok hS ?_ (fun a w6 hS hw=>?_))
 ·repeat first|refine zP rfl ?_|refine zK rfl ?_
  exact o_nil ⟨⟨rfl,trivial⟩,rfl⟩
 subst hw
 subst hEE
 refine wp_ret ?_
 repeat (first | refine then_ret ?_ | refine block_ret ?_)
 exact ret1 hS rfl rfl ⟨sb,fs,ls,_,rfl,fill_done hC,h⟩
theorem of_any {V : SV} {nx : List Nat} (h : Hold base w0 w (srR sb L fs ls V ++ rest)) (hs : SrcOk N L nx fs ls) (hN : N ≤ 100000) (hL : L ≤ 300) {t c : Nat} (ht : t < N) (hc : c < L) :
  Calls Tryz.prog 65 #[Vp sb,.int .i32 (t : Int),Vi c] w fun e w'=>(∃ ad cp,e = .returned (.slice ad (gt fs (t * L + c + 1) - gt fs (t * L + c)) cp) ∧ (gt fs (t * L + c) < gt fs (t * L + c + 1) → ∃ gl cl,V.ls = Vs gl ls.length cl ∧ ad = some ⟨gl,gt fs (t * L + c),none⟩)) ∧ RowKit.Below w.heap.size w w':=by
 obtain ⟨vfs,vls⟩:=V
 refine Sym.enter (args:=[Vp sb,.int .i32 (t : Int),Vi c]) Tryz.func65 rfl rfl rfl (fun a0 hS0=>?_)
 have hkE : t * L + c < N * L:=by
  have : (t + 1) * L ≤ N * L:=Nat.mul_le_mul_right _ ht
  rw [Nat.succ_mul] at this
  omega
 have hE : N * L ≤ 100000 * 300:=Nat.mul_le_mul hN hL
 have htL : t * L ≤ N * L:=Nat.mul_le_mul_right _ (by omega)
 have hfl:=hs.fl
 have hll:=hs.ll
 have hle:=hs.le t c ht hc
 obtain ⟨gf,cf,rfl,-⟩:=h.r.nilOr (i:=1) rfl (by omega)
 obtain ⟨gl,cl,rfl,hcl⟩:=h.r.nilOr (i:=2) rfl (by omega)
 refine wp_seq (seq_cut [(0,Vp sb),(1,.int .i32 (t : Int)),(2,Vi c)] (· = w) tab_ok hS0 ?_ (fun a w1 hS hw=>?_))
 ·repeat first|refine zP rfl ?_|refine zK rfl ?_
  exact o_nil ⟨⟨rfl,rfl,rfl,trivial⟩,rfl⟩
 subst hw
 refine wp_seq (seq_cut [(0,Vp sb),(7,Vi (t * L + c : Nat))] (· = w1) tab_ok hS ?_ (fun a w2 hS hw=>?_))
 ·repeat first|refine zP rfl ?_|refine zK rfl ?_
  refine zN rfl (i64_in t (by omega)) ?_
  repeat first|refine zP rfl ?_|refine zK rfl ?_
  refine zL rfl (h.r.xcell (i:=0) rfl (j:=0) rfl) ?_
  refine zN rfl (i64_mul _ _ (by omega)) ?_
  repeat first|refine zP rfl ?_|refine zK rfl ?_
  refine zN rfl (i64_add _ _ (by omega)) ?_
  repeat first|refine zP rfl ?_|refine zK rfl ?_
  exact o_nil ⟨⟨rfl,rfl,trivial⟩,rfl⟩
 subst hw
 obtain ⟨i,hi⟩ : ∃ i,i = t * L + c:=⟨_,rfl⟩
 rw [← hi] at hle hkE hS
 obtain ⟨vr,hvr⟩ : ∃ v,v = Value.slice (if cl = gt fs i then some ⟨gl,0,none⟩ else (some (⟨gl,0,none⟩ : Addr)).map (·.add (gt fs i * 1))) (gt fs (i + 1) - gt fs i) (cl - gt fs i):=⟨_,rfl⟩
 refine wp_seq (quiet_cut [(6,vr)] tab_ok mixed (by kernel_rfl) hS ?_ (fun a w3 hS hw=>?_))
 ·repeat first|refine qP rfl ?_|refine qK rfl ?_
  refine qL rfl (h.r.xcell (i:=0) rfl (j:=2) rfl) ?_
  repeat first|refine qP rfl ?_|refine qK rfl ?_
  refine qL rfl (h.r.xcell (i:=0) rfl (j:=1) rfl) ?_
  repeat first|refine qP rfl ?_|refine qK rfl ?_
  refine qI rfl (rfl) ((by omega)) ?_
  refine qL rfl (h.r.cS (i:=1) rfl (j:=i) (by omega)) ?_
  repeat first|refine qP rfl ?_|refine qK rfl ?_
  refine qL rfl (h.r.xcell (i:=0) rfl (j:=1) rfl) ?_
  repeat first|refine qP rfl ?_|refine qK rfl ?_
  refine qN rfl (i64_add i 1 (by omega)) ?_
  refine qI rfl (rfl) ((by omega)) ?_
  refine qL rfl (h.r.cS (i:=1) rfl (j:=i + 1) (by omega)) ?_
  refine q_step rfl rfl rfl (Exists.intro (gt fs i) (Exists.intro (gt fs (i + 1)) (And.intro ⟨_,_,rfl,rfl⟩ (And.intro ⟨_,_,rfl,rfl⟩ (And.intro hle.1 (And.intro (by omega) (And.intro hcl.1 ?_)))))))
  subst hvr
  repeat first|refine qP rfl ?_|refine qK rfl ?_
  exact q_nil ⟨rfl,trivial⟩
 refine wp_ret ?_
 repeat (first | refine then_ret ?_ | refine block_ret ?_)
 refine ret1 hS rfl rfl ⟨?_,hw⟩
 rw [← hi]
 refine ⟨_,_,by rw [hvr],fun hlt=>⟨gl,cl,rfl,?_⟩⟩
 rw [if_neg (by omega)]
 simp only [Option.map_some,Addr.add,Nat.mul_one]
 split
 ·rename_i h0; rw [h0]
 ·simp
end
end Go.Proofs.YthcoppfiahnpoaaGreat
namespace Go.Proofs.YthcoppfiahnpoaaGreat
open Go Sym
theorem en_refine : enters Tryz.prog 30 = true:=by kernel_rfl
section
variable {base : Nat} {w0 w : World} {A B C D : List Ow}
theorem Hold.drop : ∀ {A : List Ow},Hold base w0 w (A ++ B) → Hold base w0 w B
 | [],h=>h
 | _ :: A,h=>Hold.drop (A:=A) h.tail
theorem perm3 (A B C : List Ow) : (A ++ (B ++ C)).Perm (B ++ (A ++ C)):=by
 rw [← List.append_assoc,← List.append_assoc]
 exact List.perm_append_comm.append_right C
theorem Hold.swap2 (h : Hold base w0 w (A ++ (B ++ C))) : Hold base w0 w (B ++ (A ++ C)):=h.perm (perm3 A B C)
theorem perm4 (P S G Q R : List Ow) : (P ++ (Q ++ (S ++ (G ++ R)))).Perm (P ++ (S ++ (G ++ (Q ++ R)))):=by
 refine List.Perm.append_left P ?_
 refine (perm3 Q S (G ++ R)).trans ?_
 exact List.Perm.append_left S (perm3 Q G R)
end
structure RefS (L N : Nat) (nx : List Nat) (en : List Bool) (p : Pt) (lev : Nat → Nat → Nat) (R : Nat) : Prop where
 pi : PI p N []
 ml : p.ml = []
 lv : Lev L (dlG nx L) (enG en) p N lev R
 pos : 0 < R
 few : R ≤ N
 cur : ∀ s,s < N → gt p.bl s = lev R s
 tells : ∀ s t,s < N → t < N → (lev R s = lev R t ↔ ∀ w,Word L w → enG en (rnG (dlG nx L) s w) = enG en (rnG (dlG nx L) t w))
def Cl (N L : Nat) (nx : List Nat) (p : Pt) (B : List Nat) (i c : Nat) (q : Pt) : Prop:=
 ∀ s t,s < N → t < N → (gt q.bl s = gt q.bl t ↔ gt p.bl s = gt p.bl t ∧ ∀ j d,j < B.length → d < L → (j < i ∨ (j = i ∧ d < c)) → (gt p.bl (dlG nx L s d) = gt B j ↔ gt p.bl (dlG nx L t d) = gt B j))
theorem Cl.next {N L : Nat} {nx : List Nat} {p : Pt} {B : List Nat} {i : Nat} {q : Pt} (h : Cl N L nx p B i L q) : Cl N L nx p B (i + 1) 0 q:=fun s t hs ht=>by
 rw [h s t hs ht]
 constructor
 ·rintro ⟨h1,h2⟩
  exact ⟨h1,fun j d hj hd hc=>h2 j d hj hd (by omega)⟩
 ·rintro ⟨h1,h2⟩
  exact ⟨h1,fun j d hj hd hc=>h2 j d hj hd (by omega)⟩
theorem Cl.step {N L : Nat} {nx : List Nat} {p : Pt} {B : List Nat} {i c : Nat} {q q' : Pt} (h : Cl N L nx p B i c q) (hi : i < B.length) (hc : c < L)
  (hq : ∀ s t,s < N → t < N → (gt q'.bl s = gt q'.bl t ↔ gt q.bl s = gt q.bl t ∧ (gt p.bl (dlG nx L s c) = gt B i ↔ gt p.bl (dlG nx L t c) = gt B i))) : Cl N L nx p B i (c + 1) q':=fun s t hs ht=>by
 rw [hq s t hs ht,h s t hs ht]
 constructor
 ·rintro ⟨⟨h1,h2⟩,h3⟩
  refine ⟨h1,fun j d hj hd hc=>?_⟩
  by_cases e : j = i ∧ d = c
  ·obtain ⟨rfl,rfl⟩:=e; exact h3
  ·exact h2 j d hj hd (by omega)
 ·rintro ⟨h1,h2⟩
  exact ⟨⟨h1,fun j d hj hd hc=>h2 j d hj hd (by omega)⟩,h2 i c hi hc (by omega)⟩
theorem gt_mem {l : List Nat} {x : Nat} : x ∈ l ↔ ∃ j,j < l.length ∧ gt l j = x:=by
 rw [List.mem_iff_getElem]
 constructor
 ·rintro ⟨j,hj,rfl⟩
  exact ⟨j,hj,by show l.getD j 0 = _; rw [List.getD_eq_getElem?_getD,List.getElem?_eq_getElem hj]; rfl⟩
 ·rintro ⟨j,hj,rfl⟩
  exact ⟨j,hj,by show _ = l.getD j 0; rw [List.getD_eq_getElem?_getD,List.getElem?_eq_getElem hj]; rfl⟩
theorem gt_part {N : Nat} {part bl : List Nat} {x : Nat} (h : ∀ s,s ∈ part ↔ s < N ∧ gt bl s = x) {s : Nat} (hs : s < N) : s ∈ part ↔ gt bl s = x:=by
 rw [h]; exact ⟨fun h=>h.2,fun h=>⟨hs,h⟩⟩
theorem PI.cs {p : Pt} {N : Nat} {todo cs : List Nat} (h : PI p N todo) : PI { p with cs:=cs } N todo:=⟨h.st,h.pl,h.bl,h.sp,h.ps,h.ib,h.inn,h.bd,h.own,h.tm,h.nd⟩
section
variable {base : Nat} {w0 w : World} {b L tot N : Nat} {g : GP} {gv : GV} {rest : List Ow}
theorem refine_any (h : Hold base w0 w (grR b L tot g gv ++ rest)) (hg : Gr N L g.nx g.en) (hN : N ≤ 100000) (hL : L ≤ 300) :
  Calls Tryz.prog 30 #[Vp b] w fun e w'=>∃ pb p lev R,e = .returned (Vp pb) ∧ RefS L N g.nx g.en p lev R ∧ HoldP base w0 w' pb p (grR b L tot g gv ++ rest):=by
 refine Sym.enter (args:=[Vp b]) Tryz.func30 rfl rfl rfl (fun a0 hS0=>?_)
 have hen:=hg.enl
 obtain ⟨vst,vnx,ven⟩:=gv
 obtain ⟨ge,ce,rfl,-⟩:=h.r.nilOr (i:=3) rfl (by have:=hg.pos; omega)
 obtain ⟨GVa,hGV⟩ : ∃ V : GV,V = ⟨vst,vnx,Vs ge g.en.length ce⟩:=⟨_,rfl⟩
 refine wp_seq (seq_cut [(0,Vp b)] (· = w) tab_ok hS0 ?_ (fun a w1 hS hw=>?_))
 ·repeat first|refine zP rfl ?_|refine zK rfl ?_
  exact o_nil ⟨⟨rfl,trivial⟩,rfl⟩
 subst hw
 refine wp_seq (seq_cutx (α:=Nat) (fun pb=>[(0,Vp b),(3,Vp pb)]) (fun pb w'=>HoldP base w0 w' pb (Pt.whole N) (grR b L tot g GVa ++ rest)) tab_ok hS ?_ (fun pb a w2 hS h=>?_))
 ·repeat first|refine zP rfl ?_|refine zK rfl ?_
  refine zL rfl (h.r.xcell (i:=0) rfl (j:=3) rfl) ?_
  repeat first|refine zP rfl ?_|refine zK rfl ?_
  refine zF rfl (en_whole) (whole_any (n:=g.en.length) h (by omega)) ?_
  rintro e w2 ⟨pb,rfl,h2⟩
  refine ⟨_,rfl,?_⟩
  rw [hen,← hen,← hGV] at h2
  rw [hen] at h2
  repeat first|refine zP rfl ?_|refine zK rfl ?_
  exact o_nil ⟨pb,⟨rfl,rfl,trivial⟩,h2⟩
 have hpos:=hg.pos
 have hw0:=whole_ok hpos
 have hlv0 : Lev L (dlG g.nx L) (enG g.en) (Pt.whole N) N (fun _ _=>0) 0:=Lev.start rfl rfl (fun s hs=>gt_rep hs)
 refine wp_seq (cut (F:=fun a' w'=>St Tryz.f30.ntmps a' [(0,Vp b),(3,Vp pb)] ∧ ∃ q,Mk (Pt.whole N) q N (fun s=>enG g.en s = true) ∧ HoldP base w0 w' pb q (grR b L tot g GVa ++ rest)) ?_ ?_)
 ·refine wp_seq (seq_cut [(0,Vp b),(3,Vp pb),(23,Vs ge g.en.length ce),(24,Vi N),(25,Vi (0 : Nat))] (· = w2) tab_ok hS ?_ (fun a w3 hS hw=>?_))
  ·subst hGV
   subst hen
   obtain ⟨V,h⟩:=h
   repeat first|refine zP rfl ?_|refine zK rfl ?_
   refine zL rfl (h.r.xcell (i:=7) rfl (j:=3) rfl) ?_
   repeat first|refine zP rfl ?_|refine zK rfl ?_
   exact o_nil ⟨⟨rfl,rfl,rfl,rfl,rfl,trivial⟩,rfl⟩
  subst hw
  refine wp_block (loop0 hS (fun γ E' w'=>∃ (k : Nat) (q : Pt),k ≤ N ∧ γ = N - k ∧ E' = [(0,Vp b),(3,Vp pb),(23,Vs ge g.en.length ce),(24,Vi N),(25,Vi k)] ∧ Mk (Pt.whole N) q N (fun s=>s < k ∧ enG g.en s = true) ∧ HoldP base w0 w' pb q (grR b L tot g GVa ++ rest)) N
   ⟨0,_,by omega,by omega,rfl,(Mk.start hw0 rfl).imp (fun s _=>⟨False.elim,fun h=>by omega⟩),h⟩ ?_)
  clear h hS
  rintro γ E' w4 a ⟨k,q,hk1,rfl,rfl,hM,h⟩ hS
  refine wp_seq (seq_cut [(0,Vp b),(3,Vp pb),(23,Vs ge g.en.length ce),(24,Vi N),(25,Vi k),(26,.bool (decide (k < N)))] (· = w4) tab_ok hS ?_ (fun a w5 hS hw=>?_))
  ·repeat first|refine zP rfl ?_|refine zK rfl ?_
   refine zC rfl (lt_nat _ _) ?_
   repeat first|refine zP rfl ?_|refine zK rfl ?_
   exact o_nil ⟨⟨rfl,rfl,rfl,rfl,rfl,rfl,trivial⟩,rfl⟩
  subst hw
  refine wp_seq (cond hS rfl (fun hT=>wp_skip ?_) (fun hF=>?_))
  rotate_left
  ·have hkk : k = N:=by have:=of_decide_eq_false hF; omega
   subst hkk
   refine wp_exit ?_
   repeat (first | refine then_exit ?_ | refine block_exit ?_ | refine block_other rfl ?_)
   exact ⟨hS.sub ⟨rfl,rfl,trivial⟩,q,hM.imp (fun s hs=>⟨fun h=>h.2,fun h=>⟨hs,h⟩⟩),h⟩
  have hkk : k < N:=of_decide_eq_true hT
  refine wp_seq (wp_block (wp_seq (seq_cut [(0,Vp b),(3,Vp pb),(23,Vs ge g.en.length ce),(24,Vi N),(25,Vi k),(4,Vi k),(5,.bool (enG g.en k))] (· = w5) tab_ok hS ?_ (fun a w6 hS hw=>?_))))
  ·subst hGV
   obtain ⟨V,h⟩:=h
   repeat first|refine zP rfl ?_|refine zK rfl ?_
   refine zI rfl (rfl) ((by omega)) ?_
   refine zL rfl (h.r.cB (i:=10) rfl (j:=k) (by omega)) ?_
   repeat first|refine zP rfl ?_|refine zK rfl ?_
   exact o_nil ⟨⟨rfl,rfl,rfl,rfl,rfl,rfl,rfl,trivial⟩,rfl⟩
  subst hw
  refine wp_seq (seq_cut [(0,Vp b),(3,Vp pb),(23,Vs ge g.en.length ce),(24,Vi N),(25,Vi k),(4,Vi k),(30,.bool (enG g.en k))] (· = w6) tab_ok hS ?_ (fun a w7 hS hw=>?_))
  ·repeat first|refine zP rfl ?_|refine zK rfl ?_
   exact o_nil ⟨⟨rfl,rfl,rfl,rfl,rfl,rfl,rfl,trivial⟩,rfl⟩
  subst hw
  refine cond hS rfl (fun hT=>?_) (fun hF=>?_)
  ·refine seq_cut [(0,Vp b),(3,Vp pb),(23,Vs ge g.en.length ce),(24,Vi N),(25,Vi k)] (fun w'=>HoldP base w0 w' pb (q.mark k) (grR b L tot g GVa ++ rest)) tab_ok hS ?_ (fun a w8 hS h=>?_)
   ·repeat first|refine zP rfl ?_|refine zK rfl ?_
    refine zF rfl (en_mark) (mark_any h hM.pi hkk (fun hm=>by have:=(hM.m k hkk).1 hm; omega) (by omega)) ?_
    rintro e w8 ⟨rfl,h2⟩
    refine ⟨_,rfl,?_⟩
    repeat first|refine zP rfl ?_|refine zK rfl ?_
    exact o_nil ⟨⟨rfl,rfl,rfl,rfl,rfl,trivial⟩,h2⟩
   refine block_normal ?_
   refine seq_cut [(0,Vp b),(3,Vp pb),(23,Vs ge g.en.length ce),(24,Vi N),(25,Vi (k + 1 : Nat))] (· = w8) tab_ok hS ?_ (fun a w9 hS hw=>?_)
   ·repeat first|refine zP rfl ?_|refine zK rfl ?_
    refine zN rfl (i64_add _ 1 (by omega)) ?_
    repeat first|refine zP rfl ?_|refine zK rfl ?_
    exact o_nil ⟨⟨rfl,rfl,rfl,rfl,rfl,trivial⟩,rfl⟩
   subst hw
   refine ⟨N - (k + 1),_,by omega,⟨k + 1,_,by omega,rfl,rfl,(hM.step hkk (by omega)).imp (fun s hs=>?_),h⟩,hS⟩
   constructor
   ·rintro (⟨h1,h2⟩ | rfl)
    ·exact ⟨by omega,h2⟩
    ·exact ⟨by omega,hT⟩
   ·rintro ⟨h1,h2⟩
    by_cases e : s = k
    ·exact .inr e
    ·exact .inl ⟨by omega,h2⟩
  ·refine wp_skip ?_
   refine block_normal ?_
   refine seq_cut [(0,Vp b),(3,Vp pb),(23,Vs ge g.en.length ce),(24,Vi N),(25,Vi (k + 1 : Nat))] (· = w7) tab_ok hS ?_ (fun a w9 hS hw=>?_)
   ·repeat first|refine zP rfl ?_|refine zK rfl ?_
    refine zN rfl (i64_add _ 1 (by omega)) ?_
    repeat first|refine zP rfl ?_|refine zK rfl ?_
    exact o_nil ⟨⟨rfl,rfl,rfl,rfl,rfl,trivial⟩,rfl⟩
   subst hw
   refine ⟨N - (k + 1),_,by omega,⟨k + 1,_,by omega,rfl,rfl,hM.imp (fun s hs=>?_),h⟩,hS⟩
   constructor
   ·rintro ⟨h1,h2⟩; exact ⟨by omega,h2⟩
   ·rintro ⟨h1,h2⟩
    by_cases e : s = k
    ·subst e; rw [hF] at h2; cases h2
    ·exact ⟨by omega,h2⟩
 clear h hS
 rintro a w3 ⟨hS,q,hM,h⟩
 obtain ⟨hs1,hs2,hs3,hs4⟩:=hM.split (by show 1 ≤ 1; omega)
 have hlvq : Lev L (dlG g.nx L) (enG g.en) q.split N (fun _ _=>0) 0:=hlv0.keep hs3
 refine wp_seq (seq_cut [(0,Vp b),(3,Vp pb)] (fun w'=>HoldP base w0 w' pb q.split (grR b L tot g GVa ++ rest)) tab_ok hS ?_ (fun a w4 hS h=>?_))
 ·have hlow : q.low ≤ q.bs.length:=by
   rw [hM.len]
   have : q.low = (Pt.whole N).low:=by unfold Pt.low; rw [hM.cs]
   rw [this]; show 1 ≤ 1; omega
  repeat first|refine zP rfl ?_|refine zK rfl ?_
  refine zF rfl (en_split) (split_any h hM.pi hlow (by rw [hM.cs]; show 0 < 1; omega) (by rw [hM.cs]; show 1 ≤ _; omega) (by omega)) ?_
  rintro e w8 ⟨rfl,h2⟩
  refine ⟨_,rfl,?_⟩
  repeat first|refine zP rfl ?_|refine zK rfl ?_
  exact o_nil ⟨⟨rfl,rfl,trivial⟩,h2⟩
 refine wp_seq (seq_cutx (α:=Nat) (fun sb=>[(0,Vp b),(3,Vp pb),(6,Vp sb)]) (fun sb w'=>∃ fs ls V,SrcOk N L g.nx fs ls ∧ HoldP base w0 w' pb q.split (srR sb L fs ls V ++ (grR b L tot g GVa ++ rest))) tab_ok hS ?_ (fun sb a w5 hS h=>?_))
 ·obtain ⟨V,h⟩:=h
  repeat first|refine zP rfl ?_|refine zK rfl ?_
  refine zF rfl (en_sourcesOf) (sourcesOf_any h.swap2 hg hN hL) ?_
  rintro e w8 ⟨sb,fs,ls,SV,rfl,hok,h2⟩
  refine ⟨_,rfl,?_⟩
  repeat first|refine zP rfl ?_|refine zK rfl ?_
  refine o_nil ⟨sb,⟨rfl,rfl,rfl,trivial⟩,fs,ls,SV,hok,V,h2.perm ?_⟩
  exact (List.Perm.append_left _ (perm3 _ _ _)).trans (perm3 _ _ _)
 obtain ⟨fs,ls,SV,hsrc,h⟩:=h
 have hlow1 : q.split.low = 1:=by unfold Pt.low; rw [hs3.cs]; rfl
 have hcl0 : ∀ s t,s < N → t < N → (gt q.split.bl s = gt q.split.bl t ↔ EqG L (dlG g.nx L) (enG g.en) (0 + 1) s t):=fun s t hs ht=>by
  rw [hs4 s t hs ht,EqG.one]
  have e1 : gt (Pt.whole N).bl s = 0:=gt_rep hs
  have e2 : gt (Pt.whole N).bl t = 0:=gt_rep ht
  rw [e1,e2]
  constructor
  ·rintro ⟨_,h⟩
   exact Bool.eq_iff_iff.2 h
  ·intro h
   exact ⟨rfl,by rw [h]⟩
 rw [hs2] at hs1
 refine wp_seq (wp_block (loop0 hS (fun γ E' w'=>∃ (p : Pt) (lev : Nat → Nat → Nat) (R : Nat),γ = N + 1 - p.low ∧ E' = [(0,Vp b),(3,Vp pb),(6,Vp sb)] ∧ PI p N [] ∧ p.ml = [] ∧ Lev L (dlG g.nx L) (enG g.en) p N lev R ∧ R < p.low ∧ (∀ s t,s < N → t < N → (gt p.bl s = gt p.bl t ↔ EqG L (dlG g.nx L) (enG g.en) (R + 1) s t)) ∧ HoldP base w0 w' pb p (srR sb L fs ls SV ++ (grR b L tot g GVa ++ rest))) (N + 1 - q.split.low)
  ⟨q.split,_,0,rfl,rfl,hs1,hs2,hlvq,by omega,hcl0,h⟩ ?_))
 clear h hS hs1 hs2 hs3 hs4 hlvq hlow1 hcl0 hM hlv0 hw0
 rintro γ E' w6 a ⟨p,lev,R,rfl,rfl,hpi,hml,hlv,hRl,hcl,h⟩ hS
 have hfew:=hpi.few
 have hlow:=hlv.lowLe
 have hcsl:=hlv.cs
 obtain ⟨hl1,hc1,hc0⟩:=hlv.endR hpi.ib hcl
 obtain ⟨lev1,hlev1⟩ : ∃ l : Nat → Nat → Nat,l = (fun r s=>if r ≤ R then lev r s else gt p.bl s):=⟨_,rfl⟩
 rw [← hlev1] at hl1
 have hcur : ∀ s,lev1 (R + 1) s = gt p.bl s:=fun s=>by rw [hlev1]; exact if_neg (by omega)
 have hp1 : PI p.endR N []:=hpi.cs
 refine wp_seq (wp_seq (seq_cut [(0,Vp b),(3,Vp pb),(6,Vp sb),(40,.bool (decide (p.low < p.bs.length)))] (fun w'=>HoldP base w0 w' pb p.endR (srR sb L fs ls SV ++ (grR b L tot g GVa ++ rest))) tab_ok hS ?_ (fun a w7 hS h=>?_)))
 ·repeat first|refine zP rfl ?_|refine zK rfl ?_
  refine zF rfl (en_endRound) (endRound_any h (by omega) (by omega)) ?_
  rintro e w8 ⟨rfl,h2⟩
  refine ⟨_,rfl,?_⟩
  repeat first|refine zP rfl ?_|refine zK rfl ?_
  exact o_nil ⟨⟨rfl,rfl,rfl,rfl,trivial⟩,h2⟩
 refine cond hS rfl (fun hT=>wp_skip ?_) (fun hF=>?_)
 rotate_left
 ·have hend:=of_decide_eq_false hF
  refine wp_exit ?_
  repeat (first | refine then_exit ?_ | refine block_exit ?_ | refine block_other rfl ?_)
  refine wp_seq (seq_cut [(2,Vp pb)] (· = w7) tab_ok hS ?_ (fun a w8 hS hw=>?_))
  ·repeat first|refine zP rfl ?_|refine zK rfl ?_
   exact o_nil ⟨⟨rfl,trivial⟩,rfl⟩
  subst hw
  obtain ⟨V,h⟩:=h
  have hlw:=hlv.low
  refine wp_ret ?_
  repeat (first | refine then_ret ?_ | refine block_ret ?_)
  refine ret1 hS rfl rfl ⟨pb,p.endR,lev1,R + 1,rfl,⟨hp1,hml,hl1,by omega,by omega,fun s hs=>(hcur s).symm,fun s t hs ht=>hl1.still (fun s c=>hg.lt s c) (by rw [hc1,hc0]; omega) hs ht⟩,V,?_⟩
  rw [hGV] at h
  exact h.swap2.drop
 have hmore : p.low < p.bs.length:=of_decide_eq_true hT
 have hlw:=hlv.low
 refine wp_block ?_
 obtain ⟨p1,hp1e⟩ : ∃ p1,p1 = p.endR:=⟨_,rfl⟩
 rw [← hp1e] at hl1 hc1 hc0 hp1 h
 have hp1bl : p1.bl = p.bl:=by rw [hp1e]; rfl
 have hp1bs : p1.bs.length = p.bs.length:=by rw [hp1e]; rfl
 have hp1ml : p1.ml = []:=by rw [hp1e]; exact hml
 have hcur1 : ∀ s,lev1 (R + 1) s = gt p1.bl s:=fun s=>by rw [hp1bl]; exact hcur s
 have hp1low : p1.low = p.bs.length:=by rw [hl1.low]; exact hc1
 have hc0' : gt p1.cs (R + 1 - 1) = p.low:=by rw [hlw]; exact hc0
 refine wp_seq (seq_cutx (α:=Value × List Value × List Nat) (fun x=>[(0,Vp b),(3,Vp pb),(6,Vp sb),(42,x.1),(43,Vi x.2.2.length),(44,Vi (0 : Nat))]) (fun x w'=>Tells p1 (R + 1) x.2.2 ∧ (∀ y ∈ x.2.2,y < p.bs.length) ∧ x.2.1.length = x.2.2.length ∧ x.2.2.length ≤ N ∧ HoldP base w0 w' pb p1 (srR sb L fs ls SV ++ (grR b L tot g GVa ++ (partsR x.1 x.2.1 (x.2.2.map p1.mem) ++ rest)))) tab_ok hS ?_ (fun x a w8 hS h=>?_))
 ·repeat first|refine zP rfl ?_|refine zK rfl ?_
  refine zF rfl (en_parts) (parts_any (R:=R + 1) (c0:=p.low) (c1:=p.bs.length) h hp1 (by omega) hl1.cs (by omega) (by omega) hc0' hc1 (by omega) (by omega) (fun x h1 h2=>by rw [hlw,← hc0]; exact hl1.par R (by omega) x (by rw [hc0,← hlw]; exact h1) (by rw [hc1]; exact h2))) ?_
  rintro e w8 ⟨vp,V,vs,B,rfl,hB1,hB2,hB3,hB4,h2⟩
  obtain ⟨gvp,cvp,hvp,-⟩:=h2.r.any (i:=7) rfl
  subst hvp
  refine ⟨_,rfl,?_⟩
  repeat first|refine zP rfl ?_|refine zK rfl ?_
  refine o_nil ⟨(_,vs,B),⟨rfl,rfl,rfl,rfl,by rw [← hB3]; rfl,rfl,trivial⟩,hB1,hB2,hB3,(show B.length ≤ N by omega),V,h2.perm (perm4 _ _ _ _ _)⟩
 obtain ⟨vp,vs,B⟩:=x
 simp only at hS h
 obtain ⟨hB1,hB2,hB3,hB4,h⟩:=h
 have hBl : ∀ j,j < B.length → gt B j < p1.bs.length:=fun j hj=>by
  rw [hp1bs]; exact hB2 _ (gt_mem.2 ⟨j,hj,rfl⟩)
 have hcl1 : Cl N L g.nx p1 B 0 0 p1:=fun s t _ _=>⟨fun h=>⟨h,fun j d _ _ hc=>by omega⟩,fun h=>h.1⟩
 refine wp_block (loop0 hS (fun γ E' w'=>∃ (i : Nat) (q : Pt),i ≤ B.length ∧ γ = B.length - i ∧ E' = [(0,Vp b),(3,Vp pb),(6,Vp sb),(42,vp),(43,Vi B.length),(44,Vi i)] ∧ PI q N [] ∧ q.ml = [] ∧ PH p1 q N ∧ Cl N L g.nx p1 B i 0 q ∧ HoldP base w0 w' pb q (srR sb L fs ls SV ++ (grR b L tot g GVa ++ (partsR vp vs (B.map p1.mem) ++ rest)))) B.length
  ⟨0,p1,by omega,by omega,rfl,hp1,hp1ml,PH.refl _ _,hcl1,h⟩ ?_)
 clear h hS hcl1 hB2
 rintro γ E' w9 a ⟨i,q,hi,rfl,rfl,hq1,hq2,hq3,hq4,h⟩ hS
 refine wp_seq (seq_cut [(0,Vp b),(3,Vp pb),(6,Vp sb),(42,vp),(43,Vi B.length),(44,Vi i),(45,.bool (decide (i < B.length)))] (· = w9) tab_ok hS ?_ (fun a w10 hS hw=>?_))
 ·repeat first|refine zP rfl ?_|refine zK rfl ?_
  refine zC rfl (lt_nat _ _) ?_
  repeat first|refine zP rfl ?_|refine zK rfl ?_
  exact o_nil ⟨⟨rfl,rfl,rfl,rfl,rfl,rfl,rfl,trivial⟩,rfl⟩
 subst hw
 refine wp_seq (cond hS rfl (fun hT=>wp_skip ?_) (fun hF=>?_))
 rotate_left
 ·have hii : i = B.length:=by have:=of_decide_eq_false hF; omega
  subst hii
  refine wp_exit ?_
  repeat (first | refine then_exit ?_ | refine block_exit ?_ | refine block_other rfl ?_)
  refine block_normal ?_
  have hql : Lev L (dlG g.nx L) (enG g.en) q N lev1 (R + 1):=hl1.keep hq3
  have hqlow : q.low = p.bs.length:=by
   have : q.low = p1.low:=by unfold Pt.low; rw [hq3.cs]
   rw [this,hp1low]
  obtain ⟨V,h⟩:=h
  refine ⟨N + 1 - q.low,_,by rw [hqlow]; omega,⟨q,lev1,R + 1,rfl,rfl,hq1,hq2,hql,by rw [hqlow]; omega,fun s t hs ht=>?_,V,?_⟩,hS.sub ⟨rfl,rfl,rfl,trivial⟩⟩
  ·have hrs:=round_sem (B:=B) (fun s c=>hg.lt s c) hl1 (by omega) hB1 hs ht
   rw [← hrs,hq4 s t hs ht]
   simp only [hcur1]
   refine and_congr Iff.rfl ⟨fun h b hb c hc=>?_,fun h j d hj hd _=>?_⟩
   ·obtain ⟨j,hj,rfl⟩:=gt_mem.1 hb
    exact h j c hj hc (by omega)
   ·exact h _ (gt_mem.2 ⟨j,hj,rfl⟩) d hd
  ·exact (h.perm (perm4 _ _ _ _ _).symm).swap2.drop
 have hii : i < B.length:=of_decide_eq_true hT
 have hpl : (p1.mem (gt B i)).length ≤ N:=by
  have:=mem_len hp1 (hBl i hii)
  have:=hp1.bd _ (hBl i hii)
  omega
 obtain ⟨part,hpart⟩ : ∃ part,part = p1.mem (gt B i):=⟨_,rfl⟩
 rw [← hpart] at hpl
 have hpm : ∀ s,s ∈ part ↔ s < N ∧ gt p1.bl s = gt B i:=fun s=>by rw [hpart]; exact mem_iff hp1 (hBl i hii) s
 have hpn : part.Nodup:=by rw [hpart]; exact mem_nodup hp1 (hBl i hii)
 have hmapl : (B.map p1.mem).length = B.length:=List.length_map _
 have hmapi : (B.map p1.mem)[i]'(by rw [hmapl]; exact hii) = part:=by
  rw [List.getElem_map,hpart]
  congr 1
  show B[i] = B.getD i 0
  rw [List.getD_eq_getElem?_getD,List.getElem?_eq_getElem hii]; rfl
 obtain ⟨vi,hvi1,hvi2⟩:=partsR_get (vp:=vp) (vs:=vs) (Ls:=B.map p1.mem) (by rw [hmapl]; exact hB3) (i:=i) (by rw [hmapl]; exact hii) (rest:=rest)
 rw [hmapi] at hvi2
 have hrow : ∀ V' q',(ptR pb q' V' ++ (srR sb L fs ls SV ++ (grR b L tot g GVa ++ (partsR vp vs (B.map p1.mem) ++ rest))))[14 + (i + 1)]? = some (oS vi part):=fun V' q'=>by
  have e : ptR pb q' V' ++ (srR sb L fs ls SV ++ (grR b L tot g GVa ++ (partsR vp vs (B.map p1.mem) ++ rest))) = (ptR pb q' V' ++ (srR sb L fs ls SV ++ grR b L tot g GVa)) ++ (partsR vp vs (B.map p1.mem) ++ rest):=by simp only [List.append_assoc]
  rw [e,List.getElem?_append_right (by show 14 ≤ 14 + (i + 1); omega)]
  rw [show 14 + (i + 1) - (ptR pb q' V' ++ (srR sb L fs ls SV ++ grR b L tot g GVa)).length = i + 1 by show 14 + (i + 1) - 14 = i + 1; omega]
  exact hvi2
 refine wp_seq (wp_block (wp_seq (seq_cut [(0,Vp b),(3,Vp pb),(6,Vp sb),(42,vp),(43,Vi B.length),(44,Vi i),(8,vi)] (· = w10) tab_ok hS ?_ (fun a w11 hS hw=>?_))))
 ·obtain ⟨V,h⟩:=h
  obtain ⟨gvp,cvp,rfl,-⟩:=h.r.nilOr (i:=14) rfl (by omega)
  have hc:=h.r.cellV (i:=14) rfl hvi1
  repeat first|refine zP rfl ?_|refine zK rfl ?_
  refine zI rfl (rfl) ((by omega)) ?_
  refine zL rfl (hc) ?_
  repeat first|refine zP rfl ?_|refine zK rfl ?_
  exact o_nil ⟨⟨rfl,rfl,rfl,rfl,rfl,rfl,rfl,trivial⟩,rfl⟩
 subst hw
 refine wp_seq (seq_cut [(0,Vp b),(3,Vp pb),(6,Vp sb),(42,vp),(43,Vi B.length),(44,Vi i),(8,vi),(51,Vi L),(52,Vi (0 : Nat))] (· = w11) tab_ok hS ?_ (fun a w12 hS hw=>?_))
 ·obtain ⟨V,h⟩:=h
  repeat first|refine zP rfl ?_|refine zK rfl ?_
  refine zL rfl (h.r.xcell (i:=10) rfl (j:=0) rfl) ?_
  repeat first|refine zP rfl ?_|refine zK rfl ?_
  exact o_nil ⟨⟨rfl,rfl,rfl,rfl,rfl,rfl,rfl,rfl,rfl,trivial⟩,rfl⟩
 subst hw
 refine wp_block (loop0 hS (fun γ E' w'=>∃ (c : Nat) (q : Pt),c ≤ L ∧ γ = L - c ∧ E' = [(0,Vp b),(3,Vp pb),(6,Vp sb),(42,vp),(43,Vi B.length),(44,Vi i),(8,vi),(51,Vi L),(52,Vi c)] ∧ PI q N [] ∧ q.ml = [] ∧ PH p1 q N ∧ Cl N L g.nx p1 B i c q ∧ HoldP base w0 w' pb q (srR sb L fs ls SV ++ (grR b L tot g GVa ++ (partsR vp vs (B.map p1.mem) ++ rest)))) L
  ⟨0,q,by omega,by omega,rfl,hq1,hq2,hq3,hq4,h⟩ ?_)
 clear h hS hq1 hq2 hq3 hq4
 rintro γ E' w13 a ⟨c,q,hc,rfl,rfl,hq1,hq2,hq3,hq4,h⟩ hS
 refine wp_seq (seq_cut [(0,Vp b),(3,Vp pb),(6,Vp sb),(42,vp),(43,Vi B.length),(44,Vi i),(8,vi),(51,Vi L),(52,Vi c),(53,.bool (decide (c < L)))] (· = w13) tab_ok hS ?_ (fun a w14 hS hw=>?_))
 ·repeat first|refine zP rfl ?_|refine zK rfl ?_
  refine zC rfl (lt_nat _ _) ?_
  repeat first|refine zP rfl ?_|refine zK rfl ?_
  exact o_nil ⟨⟨rfl,rfl,rfl,rfl,rfl,rfl,rfl,rfl,rfl,rfl,trivial⟩,rfl⟩
 subst hw
 refine wp_seq (cond hS rfl (fun hT=>wp_skip ?_) (fun hF=>?_))
 rotate_left
 ·have hcc : c = L:=by have:=of_decide_eq_false hF; omega
  subst hcc
  refine wp_exit ?_
  repeat (first | refine then_exit ?_ | refine block_exit ?_ | refine block_other rfl ?_)
  refine block_normal ?_
  refine seq_cut [(0,Vp b),(3,Vp pb),(6,Vp sb),(42,vp),(43,Vi B.length),(44,Vi (i + 1 : Nat))] (· = w14) tab_ok hS ?_ (fun a w15 hS hw=>?_)
  ·repeat first|refine zP rfl ?_|refine zK rfl ?_
   refine zN rfl (i64_add _ 1 (by omega)) ?_
   repeat first|refine zP rfl ?_|refine zK rfl ?_
   exact o_nil ⟨⟨rfl,rfl,rfl,rfl,rfl,rfl,trivial⟩,rfl⟩
  subst hw
  exact ⟨B.length - (i + 1),_,by omega,⟨i + 1,q,by omega,rfl,rfl,hq1,hq2,hq3,hq4.next,h⟩,hS⟩
 have hcc : c < L:=of_decide_eq_true hT
 have hq1' : PI q N q.ml:=by rw [hq2]; exact hq1
 have hql : q.low ≤ q.bs.length:=by
  have : q.low = p1.low:=by unfold Pt.low; rw [hq3.cs]
  rw [this]; exact Nat.le_trans hl1.lowLe hq3.len
 have hqcs : q.cs.length = R + 1 + 1:=by rw [hq3.cs]; exact hl1.cs
 have hpos : 0 < part.length:=by
  have h1:=mem_len hp1 (hBl i hii)
  have h2:=hp1.bd _ (hBl i hii)
  rw [hpart]; omega
 obtain ⟨V0,h⟩:=h
 obtain ⟨gi,ci,hvi3,-⟩:=h.r.nilOr (i:=14 + (i + 1)) (hrow V0 q) hpos
 replace h : HoldP base w0 w14 pb q (srR sb L fs ls SV ++ (grR b L tot g GVa ++ (partsR vp vs (B.map p1.mem) ++ rest))):=⟨V0,h⟩
 refine wp_seq (wp_block (wp_seq (seq_cut [(0,Vp b),(3,Vp pb),(6,Vp sb),(42,vp),(43,Vi B.length),(44,Vi i),(8,vi),(51,Vi L),(52,Vi c),(9,Vi c)] (· = w14) tab_ok hS ?_ (fun a w15 hS hw=>?_))))
 ·repeat first|refine zP rfl ?_|refine zK rfl ?_
  exact o_nil ⟨⟨rfl,rfl,rfl,rfl,rfl,rfl,rfl,rfl,rfl,rfl,trivial⟩,rfl⟩
 subst hw
 refine wp_seq (cut (F:=fun a' w'=>St Tryz.f30.ntmps a' [(0,Vp b),(3,Vp pb),(6,Vp sb),(42,vp),(43,Vi B.length),(44,Vi i),(8,vi),(51,Vi L),(52,Vi c),(9,Vi c)] ∧ ∃ q',Mk q q' N (fun s=>gt p1.bl (dlG g.nx L s c) = gt B i) ∧ HoldP base w0 w' pb q' (srR sb L fs ls SV ++ (grR b L tot g GVa ++ (partsR vp vs (B.map p1.mem) ++ rest)))) ?_ ?_)
 ·refine wp_seq (seq_cut [(0,Vp b),(3,Vp pb),(6,Vp sb),(42,vp),(43,Vi B.length),(44,Vi i),(8,vi),(51,Vi L),(52,Vi c),(9,Vi c),(55,vi),(56,Vi part.length),(57,Vi (0 : Nat))] (· = w15) tab_ok hS ?_ (fun a w16 hS hw=>?_))
  ·rw [hvi3]
   repeat first|refine zP rfl ?_|refine zK rfl ?_
   exact o_nil ⟨⟨rfl,rfl,rfl,rfl,rfl,rfl,rfl,rfl,rfl,rfl,rfl,rfl,rfl,trivial⟩,rfl⟩
  subst hw
  refine wp_block (loop0 hS (fun γ E' w'=>∃ (k : Nat) (q' : Pt),k ≤ part.length ∧ γ = part.length - k ∧ E' = [(0,Vp b),(3,Vp pb),(6,Vp sb),(42,vp),(43,Vi B.length),(44,Vi i),(8,vi),(51,Vi L),(52,Vi c),(9,Vi c),(55,vi),(56,Vi part.length),(57,Vi k)] ∧ Mk q q' N (fun s=>∃ j,j < k ∧ dlG g.nx L s c = gt part j) ∧ HoldP base w0 w' pb q' (srR sb L fs ls SV ++ (grR b L tot g GVa ++ (partsR vp vs (B.map p1.mem) ++ rest)))) part.length
   ⟨0,q,by omega,by omega,rfl,(Mk.start hq1' hq2).imp (fun s _=>⟨False.elim,fun ⟨j,hj,_⟩=>by omega⟩),h⟩ ?_)
  clear h hS
  rintro γ E' w17 a ⟨k,q',hk,rfl,rfl,hM,h⟩ hS
  refine wp_seq (seq_cut [(0,Vp b),(3,Vp pb),(6,Vp sb),(42,vp),(43,Vi B.length),(44,Vi i),(8,vi),(51,Vi L),(52,Vi c),(9,Vi c),(55,vi),(56,Vi part.length),(57,Vi k),(58,.bool (decide (k < part.length)))] (· = w17) tab_ok hS ?_ (fun a w18 hS hw=>?_))
  ·repeat first|refine zP rfl ?_|refine zK rfl ?_
   refine zC rfl (lt_nat _ _) ?_
   repeat first|refine zP rfl ?_|refine zK rfl ?_
   exact o_nil ⟨⟨rfl,rfl,rfl,rfl,rfl,rfl,rfl,rfl,rfl,rfl,rfl,rfl,rfl,rfl,trivial⟩,rfl⟩
  subst hw
  refine wp_seq (cond hS rfl (fun hT=>wp_skip ?_) (fun hF=>?_))
  rotate_left
  ·have hkk : k = part.length:=by have:=of_decide_eq_false hF; omega
   subst hkk
   refine wp_exit ?_
   repeat (first | refine then_exit ?_ | refine block_exit ?_ | refine block_other rfl ?_)
   refine ⟨hS.sub ⟨rfl,rfl,rfl,rfl,rfl,rfl,rfl,rfl,rfl,rfl,trivial⟩,q',hM.imp (fun s hs=>?_),h⟩
   have hd:=hg.lt s c hs hcc
   rw [← gt_part hpm hd]
   constructor
   ·rintro ⟨j,hj,e⟩; exact gt_mem.2 ⟨j,hj,e.symm⟩
   ·intro hm
    obtain ⟨j,hj,e⟩:=gt_mem.1 hm
    exact ⟨j,hj,e.symm⟩
  have hkk : k < part.length:=of_decide_eq_true hT
  obtain ⟨t,ht⟩ : ∃ t,t = gt part k:=⟨_,rfl⟩
  have htN : t < N:=((hpm t).1 (gt_mem.2 ⟨k,hkk,ht.symm⟩)).1
  refine wp_seq (wp_block (wp_seq (seq_cut [(0,Vp b),(3,Vp pb),(6,Vp sb),(42,vp),(43,Vi B.length),(44,Vi i),(8,vi),(51,Vi L),(52,Vi c),(9,Vi c),(55,vi),(56,Vi part.length),(57,Vi k),(11,.int .i32 (t : Int))] (· = w18) tab_ok hS ?_ (fun a w19 hS hw=>?_))))
  ·obtain ⟨V,h⟩:=h
   subst hvi3
   have hc:=h.r.cS (i:=14 + (i + 1)) (hrow V q') hkk
   rw [← ht] at hc
   repeat first|refine zP rfl ?_|refine zK rfl ?_
   refine zI rfl (rfl) (hkk) ?_
   refine zL rfl (hc) ?_
   repeat first|refine zP rfl ?_|refine zK rfl ?_
   exact o_nil ⟨⟨rfl,rfl,rfl,rfl,rfl,rfl,rfl,rfl,rfl,rfl,rfl,rfl,rfl,rfl,trivial⟩,rfl⟩
  subst hw
  obtain ⟨lo,hlo⟩ : ∃ lo,lo = gt fs (t * L + c):=⟨_,rfl⟩
  obtain ⟨hi',hhi⟩ : ∃ hi',hi' = gt fs (t * L + c + 1):=⟨_,rfl⟩
  have hle:=hsrc.le t c htN hcc
  have hmem:=hsrc.mem t c htN hcc
  have hnd:=hsrc.nd t c htN hcc
  have hll:=hsrc.ll
  rw [← hlo,← hhi] at hle hmem hnd
  have hNL : N * L ≤ 100000 * 300:=Nat.mul_le_mul hN hL
  refine wp_seq (seq_cutx (α:=Option Addr × Nat) (fun x=>[(0,Vp b),(3,Vp pb),(6,Vp sb),(42,vp),(43,Vi B.length),(44,Vi i),(8,vi),(51,Vi L),(52,Vi c),(9,Vi c),(55,vi),(56,Vi part.length),(57,Vi k),(64,.slice x.1 (hi' - lo) x.2),(65,Vi (hi' - lo : Nat)),(66,Vi (0 : Nat))]) (fun x w'=>(lo < hi' → ∃ gl cl,SV.ls = Vs gl ls.length cl ∧ x.1 = some ⟨gl,lo,none⟩) ∧ HoldP base w0 w' pb q' (srR sb L fs ls SV ++ (grR b L tot g GVa ++ (partsR vp vs (B.map p1.mem) ++ rest)))) tab_ok hS ?_ (fun x a w20 hS h=>?_))
  ·obtain ⟨V,h⟩:=h
   have hof:=of_any h.swap2 hsrc hN hL htN hcc
   rw [← hlo,← hhi] at hof
   repeat first|refine zP rfl ?_|refine zK rfl ?_
   refine zF rfl (en_of) (hof) ?_
   rintro e w20 ⟨⟨ad,cp,rfl,had⟩,hw⟩
   refine ⟨_,rfl,?_⟩
   repeat first|refine zP rfl ?_|refine zK rfl ?_
   exact o_nil ⟨(ad,cp),⟨rfl,rfl,rfl,rfl,rfl,rfl,rfl,rfl,rfl,rfl,rfl,rfl,rfl,rfl,rfl,rfl,trivial⟩,had,V,h.below hw⟩
  obtain ⟨ad,cp⟩:=x
  simp only at hS h
  obtain ⟨had,h⟩:=h
  refine wp_block (loop0 hS (fun γ E' w'=>∃ (r : Nat) (q2 : Pt),r ≤ hi' - lo ∧ γ = hi' - lo - r ∧ E' = [(0,Vp b),(3,Vp pb),(6,Vp sb),(42,vp),(43,Vi B.length),(44,Vi i),(8,vi),(51,Vi L),(52,Vi c),(9,Vi c),(55,vi),(56,Vi part.length),(57,Vi k),(64,.slice ad (hi' - lo) cp),(65,Vi (hi' - lo : Nat)),(66,Vi r)] ∧ Mk q q2 N (fun s=>(∃ j,j < k ∧ dlG g.nx L s c = gt part j) ∨ ∃ r',r' < r ∧ gt ls (lo + r') = s) ∧ HoldP base w0 w' pb q2 (srR sb L fs ls SV ++ (grR b L tot g GVa ++ (partsR vp vs (B.map p1.mem) ++ rest)))) (hi' - lo)
   ⟨0,q',by omega,by omega,rfl,hM.imp (fun s _=>⟨.inl,fun h=>h.elim id (fun ⟨j,hj,_⟩=>by omega)⟩),h⟩ ?_)
  clear h hS hM
  rintro γ E' w21 a ⟨r,q2,hr,rfl,rfl,hM,h⟩ hS
  refine wp_seq (seq_cut [(0,Vp b),(3,Vp pb),(6,Vp sb),(42,vp),(43,Vi B.length),(44,Vi i),(8,vi),(51,Vi L),(52,Vi c),(9,Vi c),(55,vi),(56,Vi part.length),(57,Vi k),(64,.slice ad (hi' - lo) cp),(65,Vi (hi' - lo : Nat)),(66,Vi r),(67,.bool (decide (r < hi' - lo)))] (· = w21) tab_ok hS ?_ (fun a w22 hS hw=>?_))
  ·repeat first|refine zP rfl ?_|refine zK rfl ?_
   refine zC rfl (lt_nat _ _) ?_
   repeat first|refine zP rfl ?_|refine zK rfl ?_
   exact o_nil ⟨⟨rfl,rfl,rfl,rfl,rfl,rfl,rfl,rfl,rfl,rfl,rfl,rfl,rfl,rfl,rfl,rfl,rfl,trivial⟩,rfl⟩
  subst hw
  refine wp_seq (cond hS rfl (fun hT=>wp_skip ?_) (fun hF=>?_))
  rotate_left
  ·have hrr : r = hi' - lo:=by have:=of_decide_eq_false hF; omega
   subst hrr
   refine wp_exit ?_
   repeat (first | refine then_exit ?_ | refine block_exit ?_ | refine block_other rfl ?_)
   refine block_normal ?_
   refine seq_cut [(0,Vp b),(3,Vp pb),(6,Vp sb),(42,vp),(43,Vi B.length),(44,Vi i),(8,vi),(51,Vi L),(52,Vi c),(9,Vi c),(55,vi),(56,Vi part.length),(57,Vi (k + 1 : Nat))] (· = w22) tab_ok hS ?_ (fun a w23 hS hw=>?_)
   ·repeat first|refine zP rfl ?_|refine zK rfl ?_
    refine zN rfl (i64_add _ 1 (by omega)) ?_
    repeat first|refine zP rfl ?_|refine zK rfl ?_
    exact o_nil ⟨⟨rfl,rfl,rfl,rfl,rfl,rfl,rfl,rfl,rfl,rfl,rfl,rfl,rfl,trivial⟩,rfl⟩
   subst hw
   refine ⟨part.length - (k + 1),_,by omega,⟨k + 1,q2,by omega,rfl,rfl,hM.imp (fun s hs=>?_),h⟩,hS⟩
   constructor
   ·rintro (⟨j,hj,e⟩ | ⟨r',hr',e⟩)
    ·exact ⟨j,by omega,e⟩
    ·exact ⟨k,by omega,by rw [← ht]; exact ((hmem s).1 ⟨lo + r',by omega,by omega,e⟩).2⟩
   ·rintro ⟨j,hj,e⟩
    by_cases ej : j = k
    ·subst ej
     rw [← ht] at e
     obtain ⟨p,h1,h2,h3⟩:=(hmem s).2 ⟨hs,e⟩
     exact .inr ⟨p - lo,by omega,by rw [show lo + (p - lo) = p by omega]; exact h3⟩
    ·exact .inl ⟨j,by omega,e⟩
  have hrr : r < hi' - lo:=of_decide_eq_true hT
  obtain ⟨gl,cl,hls,rfl⟩:=had (by omega)
  obtain ⟨x,hx⟩ : ∃ x,x = gt ls (lo + r):=⟨_,rfl⟩
  have hxm:=(hmem x).1 ⟨lo + r,by omega,by omega,hx.symm⟩
  have hnew : ¬ ((∃ j,j < k ∧ dlG g.nx L x c = gt part j) ∨ ∃ r',r' < r ∧ gt ls (lo + r') = x):=by
   rintro (⟨j,hj,e⟩ | ⟨r',hr',e⟩)
   ·rw [hxm.2,ht] at e
    have g1 : gt part k = part[k]:=by show part.getD k 0 = _; rw [List.getD_eq_getElem?_getD,List.getElem?_eq_getElem hkk]; rfl
    have g2 : gt part j = part[j]:=by show part.getD j 0 = _; rw [List.getD_eq_getElem?_getD,List.getElem?_eq_getElem (by omega)]; rfl
    rw [g1,g2] at e
    exact List.pairwise_iff_getElem.1 (List.nodup_iff_pairwise_ne.1 hpn) j k (by omega) hkk hj e.symm
   ·rw [hx] at e
    exact hnd (lo + r') (lo + r) (by omega) (by omega) (by omega) e
  refine wp_seq (wp_block (wp_seq (seq_cut [(0,Vp b),(3,Vp pb),(6,Vp sb),(42,vp),(43,Vi B.length),(44,Vi i),(8,vi),(51,Vi L),(52,Vi c),(9,Vi c),(55,vi),(56,Vi part.length),(57,Vi k),(64,.slice (some ⟨gl,lo,none⟩) (hi' - lo) cp),(65,Vi (hi' - lo : Nat)),(66,Vi r),(13,.int .i32 (x : Int))] (· = w22) tab_ok hS ?_ (fun a w23 hS hw=>?_))))
  ·obtain ⟨V,h⟩:=h
   have hc:=h.r.cS (i:=9) (g:=gl) (n:=ls.length) (c:=cl) (xs:=ls) (by show some (oS SV.ls ls) = _; rw [hls]) (j:=lo + r) (by omega)
   rw [← hx,Nat.zero_add] at hc
   repeat first|refine zP rfl ?_|refine zK rfl ?_
   refine zI rfl (rfl) (hrr) ?_
   refine zL rfl (hc) ?_
   repeat first|refine zP rfl ?_|refine zK rfl ?_
   exact o_nil ⟨⟨rfl,rfl,rfl,rfl,rfl,rfl,rfl,rfl,rfl,rfl,rfl,rfl,rfl,rfl,rfl,rfl,rfl,trivial⟩,rfl⟩
  subst hw
  refine seq_cut [(0,Vp b),(3,Vp pb),(6,Vp sb),(42,vp),(43,Vi B.length),(44,Vi i),(8,vi),(51,Vi L),(52,Vi c),(9,Vi c),(55,vi),(56,Vi part.length),(57,Vi k),(64,.slice (some ⟨gl,lo,none⟩) (hi' - lo) cp),(65,Vi (hi' - lo : Nat)),(66,Vi r)] (fun w'=>HoldP base w0 w' pb (q2.mark x) (srR sb L fs ls SV ++ (grR b L tot g GVa ++ (partsR vp vs (B.map p1.mem) ++ rest)))) tab_ok hS ?_ (fun a w24 hS h=>?_)
  ·repeat first|refine zP rfl ?_|refine zK rfl ?_
   refine zN rfl (i64_in x (by omega)) ?_
   refine zF rfl (en_mark) (mark_any h hM.pi hxm.1 (fun hm=>hnew ((hM.m x hxm.1).1 hm)) (by omega)) ?_
   rintro e w8 ⟨rfl,h2⟩
   refine ⟨_,rfl,?_⟩
   repeat first|refine zP rfl ?_|refine zK rfl ?_
   exact o_nil ⟨⟨rfl,rfl,rfl,rfl,rfl,rfl,rfl,rfl,rfl,rfl,rfl,rfl,rfl,rfl,rfl,rfl,trivial⟩,h2⟩
  refine block_normal ?_
  refine seq_cut [(0,Vp b),(3,Vp pb),(6,Vp sb),(42,vp),(43,Vi B.length),(44,Vi i),(8,vi),(51,Vi L),(52,Vi c),(9,Vi c),(55,vi),(56,Vi part.length),(57,Vi k),(64,.slice (some ⟨gl,lo,none⟩) (hi' - lo) cp),(65,Vi (hi' - lo : Nat)),(66,Vi (r + 1 : Nat))] (· = w24) tab_ok hS ?_ (fun a w25 hS hw=>?_)
  ·repeat first|refine zP rfl ?_|refine zK rfl ?_
   refine zN rfl (i64_add _ 1 (by omega)) ?_
   repeat first|refine zP rfl ?_|refine zK rfl ?_
   exact o_nil ⟨⟨rfl,rfl,rfl,rfl,rfl,rfl,rfl,rfl,rfl,rfl,rfl,rfl,rfl,rfl,rfl,rfl,trivial⟩,rfl⟩
  subst hw
  refine ⟨hi' - lo - (r + 1),_,by omega,⟨r + 1,_,by omega,rfl,rfl,(hM.step hxm.1 hnew).imp (fun s hs=>?_),h⟩,hS⟩
  constructor
  ·rintro ((h1 | ⟨r',hr',e⟩) | rfl)
   ·exact .inl h1
   ·exact .inr ⟨r',by omega,e⟩
   ·exact .inr ⟨r,by omega,hx.symm⟩
  ·rintro (h1 | ⟨r',hr',e⟩)
   ·exact .inl (.inl h1)
   ·by_cases er : r' = r
    ·subst er; exact .inr (by rw [hx]; exact e.symm)
    ·exact .inl (.inr ⟨r',by omega,e⟩)
 clear h hS
 rintro a w16 ⟨hS,q',hM,h⟩
 obtain ⟨hs1,hs2,hs3,hs4⟩:=hM.split hql
 rw [hs2] at hs1
 refine seq_cut [(0,Vp b),(3,Vp pb),(6,Vp sb),(42,vp),(43,Vi B.length),(44,Vi i),(8,vi),(51,Vi L),(52,Vi c)] (fun w'=>HoldP base w0 w' pb q'.split (srR sb L fs ls SV ++ (grR b L tot g GVa ++ (partsR vp vs (B.map p1.mem) ++ rest)))) tab_ok hS ?_ (fun a w17 hS h=>?_)
 ·have hlow : q'.low ≤ q'.bs.length:=by
   rw [hM.len]
   have : q'.low = q.low:=by unfold Pt.low; rw [hM.cs]
   rw [this]; exact hql
  repeat first|refine zP rfl ?_|refine zK rfl ?_
  refine zF rfl (en_split) (split_any h hM.pi hlow (by rw [hM.cs]; omega) (by rw [hM.cs]; omega) (by omega)) ?_
  rintro e w8 ⟨rfl,h2⟩
  refine ⟨_,rfl,?_⟩
  repeat first|refine zP rfl ?_|refine zK rfl ?_
  exact o_nil ⟨⟨rfl,rfl,rfl,rfl,rfl,rfl,rfl,rfl,rfl,trivial⟩,h2⟩
 refine block_normal ?_
 refine seq_cut [(0,Vp b),(3,Vp pb),(6,Vp sb),(42,vp),(43,Vi B.length),(44,Vi i),(8,vi),(51,Vi L),(52,Vi (c + 1 : Nat))] (· = w17) tab_ok hS ?_ (fun a w18 hS hw=>?_)
 ·repeat first|refine zP rfl ?_|refine zK rfl ?_
  refine zN rfl (i64_add _ 1 (by omega)) ?_
  repeat first|refine zP rfl ?_|refine zK rfl ?_
  exact o_nil ⟨⟨rfl,rfl,rfl,rfl,rfl,rfl,rfl,rfl,rfl,trivial⟩,rfl⟩
 subst hw
 exact ⟨L - (c + 1),_,by omega,⟨c + 1,_,by omega,rfl,rfl,hs1,hs2,hq3.trans hl1.lowLe hs3,hq4.step hii hcc hs4,h⟩,hS⟩
end
end Go.Proofs.YthcoppfiahnpoaaGreat
namespace Go.Proofs.YthcoppfiahnpoaaGreat
def firstN (p : Nat → Bool) (n : Nat) : Nat:=((List.range n).find? p).getD 0
theorem firstN_spec {p : Nat → Bool} {n c : Nat} (hc : c < n) (h : p c = true) (hb : ∀ d,d < c → p d = false) : firstN p n = c:=by
 unfold firstN
 have : (List.range n).find? p = some c:=by
  rw [List.find?_range_eq_some]
  exact ⟨h,List.mem_range.2 hc,fun j hj=>by simp [hb j hj]⟩
 rw [this]; rfl
theorem firstN_or (p : Nat → Bool) (n : Nat) : (∀ d,d < n → p d = false) ∨ ∃ c,c < n ∧ p c = true ∧ ∀ d,d < c → p d = false:=by
 rcases least_or p n with h | ⟨i,h1,h2,h3⟩
 ·exact .inl h
 ·exact .inr ⟨i,h1,h2,h3⟩
section
variable (L : Nat) (dl : Nat → Nat → Nat) (lev : Nat → Nat → Nat)
def walkW : Nat → Nat → Nat → List Nat
 | 0,_,_=>[]
 | r + 1,x,y=>match decide (lev (r + 1) x ≠ lev (r + 1) y) with
   | true=>walkW r x y
   | false=>let c:=firstN (fun c=>decide (lev (r + 1) (dl x c) ≠ lev (r + 1) (dl y c))) L
     c :: walkW r (dl x c) (dl y c)
end
inductive LexLe : List Nat → List Nat → Prop
 | nil : LexLe [] []
 | lt {c d : Nat} {v u : List Nat} (h : c < d) (hl : v.length = u.length) : LexLe (c :: v) (d :: u)
 | eq {c : Nat} {v u : List Nat} (h : LexLe v u) : LexLe (c :: v) (c :: u)
abbrev codeF (K : Nat) (x : Nat) (w : List Nat) : Nat:=w.foldl (fun x c=>x * K + (c + 1)) x
theorem codeF_lt {K : Nat} : ∀ (v u : List Nat) (x y : Nat),v.length = u.length → Word K v → x < y → codeF K x v < codeF K y u
 | [],[],x,y,_,_,h=>h
 | a :: v,b :: u,x,y,hl,hv,h=>codeF_lt v u _ _ (by simpa using hl) hv.tail (code_lt h hv.head)
 | [],_ :: _,_,_,hl,_,_=>by simp at hl
 | _ :: _,[],_,_,hl,_,_=>by simp at hl
theorem LexLe.code {K : Nat} {v u : List Nat} (h : LexLe v u) (hv : Word K v) : ∀ x,codeF K x v ≤ codeF K x u:=by
 induction h with
 | nil=>intro x; exact Nat.le_refl _
 | @lt c d v u h hl=>
   intro x
   exact Nat.le_of_lt (codeF_lt v u (x * K + (c + 1)) (x * K + (d + 1)) hl hv.tail (by omega))
 | eq h ih=>intro x; exact ih hv.tail _
section
variable {N L R : Nat} {dl : Nat → Nat → Nat} {en : Nat → Bool} {p : Pt} {lev : Nat → Nat → Nat}
def Tell (dl : Nat → Nat → Nat) (en : Nat → Bool) (x y : Nat) (w : List Nat) : Prop:=en (rnG dl x w) ≠ en (rnG dl y w)
theorem walkW_spec (h : Lev L dl en p N lev R) (hdl : ∀ s c,s < N → c < L → dl s c < N) : ∀ (r x y : Nat),x < N → y < N → r + 1 ≤ R → lev (r + 1) x ≠ lev (r + 1) y →
  Word L (walkW L dl lev r x y) ∧ (walkW L dl lev r x y).length ≤ r ∧ Tell dl en x y (walkW L dl lev r x y) ∧
  ∀ u,Word L u → Tell dl en x y u → (walkW L dl lev r x y).length < u.length ∨ LexLe (walkW L dl lev r x y) u
 | 0,x,y,hx,hy,hR,ha=>by
   have h1 : ¬ EqG L dl en 1 x y:=fun e=>ha ((h.sem 1 hR x y hx hy).2 e)
   rw [EqG.one] at h1
   refine ⟨Word.nil _,Nat.le_refl _,h1,fun u _ hu=>?_⟩
   cases u with
   | nil=>exact .inr .nil
   | cons c u=>exact .inl (by simp [walkW])
 | r + 1,x,y,hx,hy,hR,ha=>by
   unfold walkW
   cases hd : decide (lev (r + 1) x ≠ lev (r + 1) y)
   case true=>
    obtain ⟨h1,h2,h3,h4⟩:=walkW_spec h hdl r x y hx hy (by omega) (of_decide_eq_true hd)
    exact ⟨h1,Nat.le_succ_of_le h2,h3,h4⟩
   case false=>
    have heq:=Decidable.not_not.1 (of_decide_eq_false hd)
    have hE:=(h.sem (r + 1) (by omega) x y hx hy).1 heq
    have hnE : ¬ EqG L dl en (r + 2) x y:=fun e=>ha ((h.sem (r + 2) hR x y hx hy).2 e)
    have sem : ∀ c,c < L → (lev (r + 1) (dl x c) = lev (r + 1) (dl y c) ↔ EqG L dl en (r + 1) (dl x c) (dl y c)):=fun c hc=>h.sem (r + 1) (by omega) _ _ (hdl x c hx hc) (hdl y c hy hc)
    rcases firstN_or (fun c=>decide (lev (r + 1) (dl x c) ≠ lev (r + 1) (dl y c))) L with hall | ⟨c,hc,hpc,hb⟩
    ·refine (hnE (EqG.succ.2 ⟨EqG.one.1 (hE.mono (by omega)),fun c hc=>?_⟩)).elim
     exact (sem c hc).1 (Decidable.not_not.1 (of_decide_eq_false (hall c hc)))
    ·have hf:=firstN_spec hc hpc hb
     simp only [hf]
     have hac : lev (r + 1) (dl x c) ≠ lev (r + 1) (dl y c):=of_decide_eq_true hpc
     obtain ⟨h1,h2,h3,h4⟩:=walkW_spec h hdl r (dl x c) (dl y c) (hdl x c hx hc) (hdl y c hy hc) (by omega) hac
     have hTell : Tell dl en x y (c :: walkW L dl lev r (dl x c) (dl y c)):=h3
     have low : ∀ u,Word L u → Tell dl en x y u → r + 1 ≤ u.length:=fun u hu ht=>by
      refine Nat.le_of_not_lt fun hlt=>ht (hE u hu hlt)
     have hlen:=low _ (Word.cons hc h1) hTell
     simp only [List.length_cons] at hlen
     refine ⟨Word.cons hc h1,by simp only [List.length_cons]; omega,hTell,fun u hu ht=>?_⟩
     have hul:=low u hu ht
     cases u with
     | nil=>simp at hul
     | cons d u=>
       simp only [List.length_cons] at hul ⊢
       by_cases hlt : r < u.length
       ·exact .inl (by omega)
       ·have hul2 : u.length = r:=by omega
        have hdne : lev (r + 1) (dl x d) ≠ lev (r + 1) (dl y d):=fun e=>ht ((sem d hu.head).1 e u hu.tail (by omega))
        rcases Nat.lt_trichotomy c d with hcd | rfl | hcd
        ·exact .inr (.lt hcd (by omega))
        ·rcases h4 u hu.tail ht with h5 | h5
         ·omega
         ·exact .inr (.eq h5)
        ·have:=hb d hcd
         exact (hdne (Decidable.not_not.1 (of_decide_eq_false this))).elim
theorem walkW_diff {s1 s2 : Int} {n1 n2 : List (List Int)} {f1 f2 : List Bool} (h : Lev L dl en p N lev R) (hdl : ∀ s c,s < N → c < L → dl s c < N) {x y : Nat} (hx : x < N) (hy : y < N) (hR : 0 < R) (ha : lev R x ≠ lev R y)
  (g1 : ∀ w,Word L w → en (rnG dl x w) = accM n1 f1 s1 w) (g2 : ∀ w,Word L w → en (rnG dl y w) = accM n2 f2 s2 w) :
  DiffI L s1 n1 f1 s2 n2 f2 (walkW L dl lev (R - 1) x y) (en (rnG dl x (walkW L dl lev (R - 1) x y))) 0:=by
 obtain ⟨h1,h2,h3,h4⟩:=walkW_spec h hdl (R - 1) x y hx hy (by omega) (by rw [show R - 1 + 1 = R by omega]; exact ha)
 refine .inl ⟨rfl,h1,?_,g1 _ h1,fun u hu hne=>?_⟩
 ·rw [← g1 _ h1,← g2 _ h1]; exact h3
 ·have ht : Tell dl en x y u:=by
   unfold Tell
   rw [g1 _ hu,g2 _ hu]; exact hne
  rcases h4 u hu ht with h5 | h5
  ·exact Nat.le_of_lt (codeW_len _ _ _ (Nat.le_refl _) h1 hu h5)
  ·exact h5.code h1 0
end
end Go.Proofs.YthcoppfiahnpoaaGreat
namespace Go.Proofs.YthcoppfiahnpoaaGreat
open Go Sym
theorem en_asame : enters Tryz.prog 34 = true:=by kernel_rfl
theorem fill44 (a b c d e f g h : Value) (cs : Array Value) : Instr.fill (fun i=>some (i * 4,4)) (madeCells cs (2 * 4)) [(0,.agg #[a,b,c,d]),(1,.agg #[e,f,g,h])] = some #[a,b,c,d,e,f,g,h]:=by
 have hz : (madeCells cs (2 * 4)).size = 8:=by simp [madeCells]
 generalize madeCells cs (2 * 4) = z at hz ⊢
 obtain ⟨l⟩:=z
 match l,hz with
 | [_,_,_,_,_,_,_,_],_=>
   have h1 : (Value.agg #[a,b,c,d]).cells = #[a,b,c,d]:=rfl
   have h2 : (Value.agg #[e,f,g,h]).cells = #[e,f,g,h]:=rfl
   simp [Instr.fill,h1,h2]
structure TwoF (Ln tot : Nat) (s1 : Int) (n1 : List (List Int)) (f1 : List Bool) (s2 : Int) (n2 : List (List Int)) (f2 : List Bool) (g : GP) (x y : Nat) : Prop where
 st : g.st = [x,y]
 gr : Gr (tot + 1) Ln g.nx g.en
 xl : x < tot + 1
 yl : y < tot + 1
 g1 : ∀ w,Word Ln w → enG g.en (rnG (dlG g.nx Ln) x w) = accM n1 f1 s1 w
 g2 : ∀ w,Word Ln w → enG g.en (rnG (dlG g.nx Ln) y w) = accM n2 f2 s2 w
theorem two_facts {L s1 s2 : Int} {n1 n2 : List (List Int)} {f1 f2 : List Bool} (h1 : Shape L s1 n1 f1) (h2 : Shape L s2 n2 f2) : ∃ x y,TwoF L.toNat (n1.length + n2.length) s1 n1 f1 s2 n2 f2 (layG L.toNat [⟨s1,n1,f1⟩,⟨s2,n2,f2⟩]) x y:=by
 obtain ⟨k1,k2⟩:=shape_ok h1
 obtain ⟨k3,k4⟩:=shape_ok h2
 obtain ⟨nx,en,e,l1,l2,d1,d2,hle⟩:=lay_two k1 k3 k2 k4
 have hL : ((L.toNat : Nat) : Int) = L:=by have:=h1.L0; omega
 have h1' : Shape ((L.toNat : Nat) : Int) s1 n1 f1:=by rw [hL]; exact h1
 have h2' : Shape ((L.toNat : Nat) : Int) s2 n2 f2:=by rw [hL]; exact h2
 have t1:=laid_goes (m:=⟨s1,n1,f1⟩) h1' d1 l1 l2
 have t2:=laid_goes (m:=⟨s2,n2,f2⟩) h2' d2 l1 l2
 rw [e]
 exact ⟨_,_,rfl,gr_of l1 l2 hle,plG_lt (m:=⟨s1,n1,f1⟩) (by simp) h1.s2,plG_lt (m:=⟨s2,n2,f2⟩) (by simp) h2.s2,fun w hw=>t1 w s1 h1.s1 h1.s2 hw,fun w hw=>t2 w s2 h2.s1 h2.s2 hw⟩
theorem MsIn.two {w : World} {Bm : Nat} {L s1 s2 : Int} {vn1 ve1 vn2 ve2 : Value} {n1 n2 : List (List Int)} {f1 f2 : List Bool} (hm : Ma w L s1 n1 f1 vn1 ve1) (hm2 : Ma w L s2 n2 f2 vn2 ve2)
  (hc : cellsAt w.cell? Bm 0 [Vi L,Vi s1,vn1,ve1,Vi L,Vi s2,vn2,ve2]) : MsIn w Bm L [⟨s1,n1,f1⟩,⟨s2,n2,f2⟩]:=fun j hj=>by
 obtain ⟨c0,c1,c2,c3,c4,c5,c6,c7,_⟩:=hc
 match j,hj with
 | 0,_=>exact ⟨vn1,ve1,⟨c0,c1,c2,c3,trivial⟩,hm⟩
 | 1,_=>exact ⟨vn2,ve2,⟨c4,c5,c6,c7,trivial⟩,hm2⟩
theorem asame_any (L s1 s2 : Int) (vn1 ve1 vn2 ve2 : Value) (n1 n2 : List (List Int)) (f1 f2 : List Bool) (w : World) (hm : Ma w L s1 n1 f1 vn1 ve1) (hm2 : Ma w L s2 n2 f2 vn2 ve2) (h1 : Shape L s1 n1 f1) (h2 : Shape L s2 n2 f2) (hL : L ≤ 300) (hl1 : n1.length ≤ 4000) (hl2 : n2.length ≤ 4000) :
  Calls Tryz.prog 34 #[.agg #[Vi L,Vi s1,vn1,ve1],.agg #[Vi L,Vi s2,vn2,ve2]] w fun e w'=>∃ b,e = .returned (.bool b) ∧ (b = true ↔ Alike L.toNat n1 f1 s1 n2 f2 s2) ∧ RowKit.Below w.heap.size w w':=by
 refine Sym.enter (args:=[.agg #[Vi L,Vi s1,vn1,ve1],.agg #[Vi L,Vi s2,vn2,ve2]]) Tryz.func34 rfl rfl rfl (fun a0 hS0=>?_)
 obtain ⟨B,hBB⟩ : ∃ B,B = w.heap.size:=⟨_,rfl⟩
 refine wp_seq (seq_cut [(2,Vp B),(3,Vp (B + 1))] (· = (w.alloc (.cells #[Vi L,Vi s1,vn1,ve1] 25)).alloc (.cells #[Vi L,Vi s2,vn2,ve2] 25)) tab_ok hS0 ?_ (fun a wc hS hw=>?_))
 ·subst hBB
  refine zB rfl ?_
  refine zB rfl ?_
  rw [alloc_size]
  repeat first|refine zP rfl ?_|refine zK rfl ?_
  exact o_nil ⟨⟨rfl,rfl,trivial⟩,rfl⟩
 obtain ⟨hB,hx1,hx2⟩:=box_two hw
 rw [← hBB] at hx1 hx2
 clear hw
 replace hm:=hm.keep hB
 replace hm2:=hm2.keep hB
 have h:=(Hold.start w).below hB
 obtain ⟨x,y,hT⟩:=two_facts h1 h2
 obtain ⟨Ln,hLn⟩ : ∃ Ln : Nat,L = (Ln : Int):=⟨L.toNat,by have:=h1.L0; omega⟩
 subst hLn
 rw [Int.toNat_natCast] at hT ⊢
 obtain ⟨g,hg⟩ : ∃ g,g = layG Ln [⟨s1,n1,f1⟩,⟨s2,n2,f2⟩]:=⟨_,rfl⟩
 rw [← hg] at hT
 obtain ⟨tot,htot⟩ : ∃ tot,tot = n1.length + n2.length:=⟨_,rfl⟩
 rw [← htot] at hT
 have htg : totG [⟨s1,n1,f1⟩,⟨s2,n2,f2⟩] = tot:=by simp [totG,htot]
 obtain ⟨k1,k2⟩:=shape_ok h1
 obtain ⟨k3,k4⟩:=shape_ok h2
 rw [Int.toNat_natCast] at k1 k3
 refine wp_seq (seq_cutx (α:=Nat × GV) (fun v=>[(5,Vp v.1)]) (fun v w'=>Hold w.heap.size w w' (grR v.1 Ln tot g v.2 ++ [])) tab_ok hS ?_ (fun v a w2 hS h=>?_))
 ·repeat first|refine zP rfl ?_|refine zK rfl ?_
  refine zL rfl (hx1.c0) ?_
  refine zA ([Vi Ln,Vi s1,vn1,ve1]) rfl rfl (⟨hx1.c0,hx1.c1,hx1.c2,hx1.c3,trivial⟩) ?_
  refine zA ([Vi Ln,Vi s2,vn2,ve2]) rfl rfl (⟨hx2.c0,hx2.c1,hx2.c2,hx2.c3,trivial⟩) ?_
  refine o_step rfl rfl rfl ?_
  refine Exists.intro [(0,.agg #[Vi Ln,Vi s1,vn1,ve1]),(1,.agg #[Vi Ln,Vi s2,vn2,ve2])] (Exists.intro #[Vi Ln,Vi s1,vn1,ve1,Vi Ln,Vi s2,vn2,ve2] (And.intro (And.intro rfl rfl) (And.intro (by decide) (And.intro (fill44 _ _ _ _ _ _ _ _ _) ?_))))
  have ha:=below_alloc wc (.cells #[Vi Ln,Vi s1,vn1,ve1,Vi Ln,Vi s2,vn2,ve2] 25)
  have hMs:=MsIn.two (Bm:=wc.heap.size) (hm.keep ha) (hm2.keep ha) ⟨cell_alloc_new rfl,cell_alloc_new rfl,cell_alloc_new rfl,cell_alloc_new rfl,cell_alloc_new rfl,cell_alloc_new rfl,cell_alloc_new rfl,cell_alloc_new rfl,trivial⟩
  have hlay:=lay_any (cm:=2) hMs (by simp) (by simp) (by omega) (by
   intro m hmm
   simp only [List.mem_cons,List.not_mem_nil,or_false] at hmm
   rcases hmm with rfl | rfl
   ·exact ⟨k1,k2,h1.s2⟩
   ·exact ⟨k3,k4,h2.s2⟩) (by rw [htg]; omega)
  rw [htg,← hg] at hlay
  refine zF rfl (en_lay) (hlay) ?_
  rintro e w3 ⟨gb,V,rfl,hG⟩
  refine ⟨_,rfl,?_⟩
  repeat first|refine zP rfl ?_|refine zK rfl ?_
  exact o_nil ⟨(gb,V),⟨rfl,trivial⟩,by
   have:=(h.below ha).join hG
   exact this⟩
 obtain ⟨gb,gv⟩:=v
 simp only at hS h
 refine wp_seq (seq_cutx (α:=Nat × Pt × (Nat → Nat → Nat) × Nat) (fun v=>[(5,Vp gb),(6,Vp v.1)]) (fun v w'=>RefS Ln (tot + 1) g.nx g.en v.2.1 v.2.2.1 v.2.2.2 ∧ HoldP w.heap.size w w' v.1 v.2.1 (grR gb Ln tot g gv ++ [])) tab_ok hS ?_ (fun v a w3 hS h=>?_))
 ·repeat first|refine zP rfl ?_|refine zK rfl ?_
  refine zF rfl (en_refine) (refine_any h hT.gr (by omega) (by omega)) ?_
  rintro e w3 ⟨pb,p,lev,R,rfl,hR,h2⟩
  refine ⟨_,rfl,?_⟩
  repeat first|refine zP rfl ?_|refine zK rfl ?_
  exact o_nil ⟨(pb,p,lev,R),⟨rfl,rfl,trivial⟩,hR,h2⟩
 obtain ⟨pb,p,lev,R⟩:=v
 simp only at hS h
 obtain ⟨hR,V,h⟩:=h
 obtain ⟨vst,vpl,vbl,vbs,vcs,vml⟩:=V
 obtain ⟨gst,gnx,gen⟩:=gv
 have hbl:=hR.pi.bl
 obtain ⟨gbl,cbl,rfl,-⟩:=h.r.nilOr (i:=3) rfl (by omega)
 obtain ⟨gs,cs,rfl,-⟩:=h.r.nilOr (i:=8) rfl (by rw [hT.st]; simp)
 have e0 : gt g.st 0 = x:=by rw [hT.st]; rfl
 have e1 : gt g.st 1 = y:=by rw [hT.st]; rfl
 have hgl : g.st.length = 2:=by rw [hT.st]; rfl
 have hxx:=hT.xl
 have hyy:=hT.yl
 refine wp_seq (quiet_cut [(4,.bool (decide (gt p.bl x = gt p.bl y)))] tab_ok mixed (by kernel_rfl) hS ?_ (fun a w4 hS hw=>?_))
 ·have c0:=h.r.cN (i:=8) rfl (j:=0) (by omega)
  have c1:=h.r.cN (i:=8) rfl (j:=1) (by omega)
  rw [e0] at c0
  rw [e1] at c1
  repeat first|refine qP rfl ?_|refine qK rfl ?_
  refine qL rfl (h.r.xcell (i:=0) rfl (j:=2) rfl) ?_
  repeat first|refine qP rfl ?_|refine qK rfl ?_
  refine qL rfl (h.r.xcell (i:=7) rfl (j:=1) rfl) ?_
  refine qI rfl (show (0 : Int) = ((0 : Nat) : Int) from rfl) ((by omega)) ?_
  refine qL rfl (c0) ?_
  refine qI rfl (rfl) ((by omega)) ?_
  refine qL rfl (h.r.cN (i:=3) rfl (j:=x) (by omega)) ?_
  repeat first|refine qP rfl ?_|refine qK rfl ?_
  refine qL rfl (h.r.xcell (i:=0) rfl (j:=2) rfl) ?_
  repeat first|refine qP rfl ?_|refine qK rfl ?_
  refine qL rfl (h.r.xcell (i:=7) rfl (j:=1) rfl) ?_
  refine qI rfl (show (1 : Int) = ((1 : Nat) : Int) from rfl) ((by omega)) ?_
  refine qL rfl (c1) ?_
  refine qI rfl (rfl) ((by omega)) ?_
  refine qL rfl (h.r.cN (i:=3) rfl (j:=y) (by omega)) ?_
  refine qC rfl (decide_nat _ _) ?_
  repeat first|refine qP rfl ?_|refine qK rfl ?_
  exact q_nil ⟨rfl,trivial⟩
 refine wp_ret ?_
 repeat (first | refine then_ret ?_ | refine block_ret ?_)
 refine ret1 hS rfl rfl ⟨_,rfl,?_,?_⟩
 ·rw [decide_eq_true_eq,hR.cur x hxx,hR.cur y hyy,hR.tells x y hxx hyy]
  constructor
  ·intro h w hw
   rw [← hT.g1 w hw,← hT.g2 w hw]; exact h w hw
  ·intro h w hw
   rw [hT.g1 w hw,hT.g2 w hw]; exact h w hw
 ·exact (h.below hw).b
theorem some_letter {N L R r x y : Nat} {dl : Nat → Nat → Nat} {en : Nat → Bool} {p : Pt} {lev : Nat → Nat → Nat} (h : Lev L dl en p N lev R) (hdl : ∀ s c,s < N → c < L → dl s c < N) (hx : x < N) (hy : y < N) (hr : r + 1 ≤ R) (h0 : 0 < r) (heq : lev r x = lev r y) (hne : lev (r + 1) x ≠ lev (r + 1) y)
  (hall : ∀ c,c < L → lev r (dl x c) = lev r (dl y c)) : False:=by
 have hE:=(h.sem r (by omega) x y hx hy).1 heq
 refine hne ((h.sem (r + 1) hr x y hx hy).2 (EqG.succ.2 ⟨EqG.one.1 (hE.mono (by omega)),fun c hc=>?_⟩))
 exact (h.sem r (by omega) _ _ (hdl x c hx hc) (hdl y c hy hc)).1 (hall c hc)
theorem walkW_apart {L r x y : Nat} {dl lev : Nat → Nat → Nat} (h : lev (r + 1) x ≠ lev (r + 1) y) : walkW L dl lev (r + 1) x y = walkW L dl lev r x y:=by
 rw [walkW,decide_eq_true h]
theorem walkW_letter {L r x y c : Nat} {dl lev : Nat → Nat → Nat} (h : lev (r + 1) x = lev (r + 1) y) (hc : c < L) (hn : lev (r + 1) (dl x c) ≠ lev (r + 1) (dl y c)) (hb : ∀ d,d < c → lev (r + 1) (dl x d) = lev (r + 1) (dl y d)) : walkW L dl lev (r + 1) x y = c :: walkW L dl lev r (dl x c) (dl y c):=by
 rw [walkW,decide_eq_false (by simpa using h)]
 have:=firstN_spec (p:=fun c=>decide (lev (r + 1) (dl x c) ≠ lev (r + 1) (dl y c))) hc (decide_eq_true hn) (fun d hd=>decide_eq_false (by simpa using hb d hd))
 simp only [this]
theorem rnG_snoc (dl : Nat → Nat → Nat) (x : Nat) (w : List Nat) (c : Nat) : rnG dl x (w ++ [c]) = dl (rnG dl x w) c:=by simp [rnG,List.foldl_append]
theorem sl_nats {base : Nat} {w : World} {l : List Ow} (h : Rows base w l) {i : Nat} {v : Value} {xs : List Nat} (hi : l[i]? = some (oN v xs)) (hx : ∀ x ∈ xs,x ≤ 9223372036854775807) : Sl w v (xs.map Int.ofNat) PInt ∧ Ok v:=
 sl_own (P:=PInt) (h.1 i _ hi) (by simp) fun j hj=>by
  have hj' : j < xs.length:=by simpa using hj
  refine ⟨Vi (xs[j] : Int),by simp [hj'],?_⟩
  have:=hx _ (List.getElem_mem hj')
  rw [List.getElem_map]
  refine ⟨rfl,?_⟩
  show (-9223372036854775808 : Int) ≤ ((xs[j] : Nat) : Int) ∧ ((xs[j] : Nat) : Int) ≤ 9223372036854775807
  omega
theorem idx_lt {x c N L : Nat} (hx : x < N) (hc : c < L) : x * L + c < N * L:=by
 have:=Nat.mul_le_mul_right L (show x + 1 ≤ N from hx)
 rw [Nat.succ_mul] at this; omega
theorem noGotoR {Q : Exit → Act → World → Prop} {a : Act} {w : World} (h : Q .ret a w) : Exit.noGoto Q .ret a w:=h
theorem differ_r18 {base : Nat} {w0 w : World} {pb gb Ln tot x y rd c : Nat} {q : Pt} {g : GP} {gv : GV} {wd : List Nat} {vw vL vx vy : Value} (h : HoldP base w0 w pb q (grR gb Ln tot g gv ++ [oN vw wd])) (hl : wd.length ≤ 100000000)
  {Q : Exit → Act → World → Prop} {a : Act} {ops : Array Oper} {id : Nat} (hops : Sym.regionOf Tryz.f14.body 18 = some (id,ops))
  (hS : St Tryz.f14.ntmps a [(4,vw),(8,Vp gb),(9,Vp pb),(10,Vi x),(11,Vi y),(12,Vi rd),(72,vL),(13,Vi c),(14,vx),(15,vy)])
  (hq : ∀ vw' a' w',St Tryz.f14.ntmps a' [(4,vw'),(8,Vp gb),(9,Vp pb),(10,Vi x),(11,Vi y),(12,Vi rd),(14,vx),(15,vy)] → HoldP base w0 w' pb q (grR gb Ln tot g gv ++ [oN vw' (wd ++ [c])]) → Q .normal a' w') : (Code.region id ops false).wp Tryz.prog Q a w:=by
 cases hops
 refine seq_cutx (α:=Value) (fun vw'=>[(4,vw'),(8,Vp gb),(9,Vp pb),(10,Vi x),(11,Vi y),(12,Vi rd),(14,vx),(15,vy)]) (fun vw' w'=>HoldP base w0 w' pb q (grR gb Ln tot g gv ++ [oN vw' (wd ++ [c])])) tab_ok hS ?_ hq
 obtain ⟨V,h⟩:=h
 obtain ⟨gw,cw,rfl,hcw⟩:=h.r.any (i:=11) rfl
 repeat first|refine zP rfl ?_|refine zK rfl ?_
 refine o_step rfl rfl rfl ?_
 refine Exists.intro [(0,Vi ((c : Int)))] (Exists.intro #[Vi ((c : Int))] (And.intro (And.intro rfl rfl) (And.intro (by decide) (And.intro (fillI _ _ _) ?_))))
 have h1:=h.alloc (.cells #[Vi c] 3)
 have ask : AppAsk (w.alloc (.cells #[Vi c] 3)) ⟨3,.int .i64,1,8,Vi 0⟩ (.slice gw wd.length cw) wd.length (nats wd) (Vs w.heap.size 1 1) 1 [Vi c] base:=
  ⟨h1.r.1 11 _ rfl,.inr ⟨_,0,_,rfl,cell_alloc_new rfl,trivial⟩,rfl,(by simp [Value.oneCell']),(by omega),(by show (wd.length + 1) * 8 ≤ _; omega),h1.s⟩
 refine o_step rfl rfl rfl ?_
 refine Exists.intro _ (Exists.intro _ (Exists.intro _ (Exists.intro _ (Exists.intro _ (And.intro (ask) (And.intro (fun _ h=>h.symm) (And.intro (by decide) ?_)))))))
 rintro v' w2 hown hgr - hat
 have h2:=h1.appN (i:=11) rfl hown hgr hat
 repeat first|refine zP rfl ?_|refine zK rfl ?_
 exact o_nil ⟨v',⟨rfl,rfl,rfl,rfl,rfl,rfl,rfl,rfl,trivial⟩,V,h2⟩
theorem aDiffer_any (L1 s1 L2 s2 : Int) (vn1 ve1 vn2 ve2 : Value) (n1 n2 : List (List Int)) (f1 f2 : List Bool) (w : World) (hm : Ma w L1 s1 n1 f1 vn1 ve1) (hm2 : Ma w L2 s2 n2 f2 vn2 ve2) :
  Calls Tryz.prog 14 #[.agg #[Vi L1,Vi s1,vn1,ve1],.agg #[Vi L2,Vi s2,vn2,ve2]] w fun e w'=>∃ (vw : Value) (word : List Nat) (b : Bool) (r : Int),e = .returned (.tuple #[vw,.bool b,Vi r]) ∧ Sl w' vw (word.map Int.ofNat) PInt ∧ Ok vw ∧ RowKit.Below w.heap.size w w' ∧ DiffE L1 s1 n1 f1 L2 s2 n2 f2 word b r:=by
 refine Sym.enter (args:=[.agg #[Vi L1,Vi s1,vn1,ve1],.agg #[Vi L2,Vi s2,vn2,ve2]]) Tryz.func14 rfl rfl rfl (fun a0 hS0=>?_)
 obtain ⟨B,hBB⟩ : ∃ B,B = w.heap.size:=⟨_,rfl⟩
 refine wp_seq (seq_cut [(2,Vp B),(3,Vp (B + 1)),(4,.slice none 0 0),(5,.bool false),(6,Vi 0)] (· = (w.alloc (.cells #[Vi L1,Vi s1,vn1,ve1] 25)).alloc (.cells #[Vi L2,Vi s2,vn2,ve2] 25)) tab_ok hS0 ?_ (fun a wc hS hw=>?_))
 ·subst hBB
  refine zB rfl ?_
  refine zB rfl ?_
  rw [alloc_size]
  repeat first|refine zP rfl ?_|refine zK rfl ?_
  exact o_nil ⟨⟨rfl,rfl,rfl,rfl,rfl,trivial⟩,rfl⟩
 obtain ⟨hB,hx1,hx2⟩:=box_two hw
 rw [← hBB] at hx1 hx2
 clear hw
 replace hm:=hm.keep hB
 replace hm2:=hm2.keep hB
 have nilok : ∀ w' : World,Sl w' (Value.slice none 0 0) (([] : List Nat).map Int.ofNat) PInt ∧ Ok (Value.slice none 0 0):=fun w'=>⟨⟨none,0,0,0,rfl,by simp,by simp,by omega,fun i hi=>by simp at hi⟩,.inl (.inl rfl)⟩
 refine wp_scope_straight (wp_seq (wp_seq (seq_cut [(2,Vp B),(3,Vp (B + 1)),(4,.slice none 0 0),(7,Vi (twoM L1 s1 n1 f1 L2 s2 n2 f2))] (fun w'=>RowKit.Below wc.heap.size wc w') tab_ok hS ?_ (fun a w2 hS hw=>?_))))
 ·refine zA ([Vi L1,Vi s1,vn1,ve1]) rfl rfl (⟨hx1.c0,hx1.c1,hx1.c2,hx1.c3,trivial⟩) ?_
  refine zA ([Vi L2,Vi s2,vn2,ve2]) rfl rfl (⟨hx2.c0,hx2.c1,hx2.c2,hx2.c3,trivial⟩) ?_
  refine zF rfl (en_afit) (afit_any L1 s1 L2 s2 vn1 ve1 vn2 ve2 n1 n2 f1 f2 wc hm hm2) ?_
  rintro e w3 ⟨rfl,h3⟩
  refine ⟨_,rfl,?_⟩
  repeat first|refine zP rfl ?_|refine zK rfl ?_
  exact o_nil ⟨⟨rfl,rfl,rfl,rfl,trivial⟩,h3⟩
 replace hx1:=hx1.keep hw
 replace hx2:=hx2.keep hw
 replace hm:=hm.keep hw
 replace hm2:=hm2.keep hw
 replace hB:=below_trans hB hw
 clear hw
 refine wp_seq (seq_cut [(2,Vp B),(3,Vp (B + 1)),(4,.slice none 0 0),(7,Vi (twoM L1 s1 n1 f1 L2 s2 n2 f2)),(20,.bool (decide (twoM L1 s1 n1 f1 L2 s2 n2 f2 ≠ 0)))] (· = w2) tab_ok hS ?_ (fun a w3 hS hw=>?_))
 ·repeat first|refine zP rfl ?_|refine zK rfl ?_
  refine zC rfl (rfl) ?_
  repeat first|refine zP rfl ?_|refine zK rfl ?_
  exact o_nil ⟨⟨rfl,rfl,rfl,rfl,rfl,trivial⟩,rfl⟩
 subst hw
 refine cond hS rfl (fun hT=>?_) (fun hF=>?_)
 ·refine wp_seq (seq_cut [(4,.slice none 0 0),(5,.bool false),(6,Vi (twoM L1 s1 n1 f1 L2 s2 n2 f2))] (· = w3) tab_ok hS ?_ (fun a w4 hS hw=>?_))
  ·repeat first|refine zP rfl ?_|refine zK rfl ?_
   exact o_nil ⟨⟨rfl,rfl,rfl,trivial⟩,rfl⟩
  subst hw
  refine wp_ret ?_
  repeat (first | refine then_ret ?_ | refine block_ret ?_)
  exact noGotoR (ret3 hS rfl rfl rfl rfl ⟨_,[],false,_,rfl,(nilok _).1,(nilok w).2,hB,.inl ⟨of_decide_eq_true hT,rfl,rfl,rfl⟩⟩)
 have h0:=Decidable.not_not.1 (of_decide_eq_false hF)
 obtain ⟨v1,v2,rfl⟩:=two_zero h0
 obtain ⟨h1,hL,hl1⟩:=shape_of_valid v1
 obtain ⟨h2,-,hl2⟩:=shape_of_valid v2
 refine wp_skip ?_
 have h:=(Hold.start w).below hB
 obtain ⟨x0,y0,hT⟩:=two_facts h1 h2
 obtain ⟨Ln,hLn⟩ : ∃ Ln : Nat,L1 = (Ln : Int):=⟨L1.toNat,by have:=h1.L0; omega⟩
 subst hLn
 rw [Int.toNat_natCast] at hT
 obtain ⟨g,hg⟩ : ∃ g,g = layG Ln [⟨s1,n1,f1⟩,⟨s2,n2,f2⟩]:=⟨_,rfl⟩
 rw [← hg] at hT
 obtain ⟨tot,htot⟩ : ∃ tot,tot = n1.length + n2.length:=⟨_,rfl⟩
 rw [← htot] at hT
 have htg : totG [⟨s1,n1,f1⟩,⟨s2,n2,f2⟩] = tot:=by simp [totG,htot]
 obtain ⟨k1,k2⟩:=shape_ok h1
 obtain ⟨k3,k4⟩:=shape_ok h2
 rw [Int.toNat_natCast] at k1 k3
 refine wp_seq (seq_cutx (α:=Nat × GV) (fun v=>[(4,.slice none 0 0),(8,Vp v.1)]) (fun v w'=>Hold w.heap.size w w' (grR v.1 Ln tot g v.2 ++ [])) tab_ok hS ?_ (fun v a w4 hS h=>?_))
 ·repeat first|refine zP rfl ?_|refine zK rfl ?_
  refine zL rfl (hx1.c0) ?_
  refine zA ([Vi Ln,Vi s1,vn1,ve1]) rfl rfl (⟨hx1.c0,hx1.c1,hx1.c2,hx1.c3,trivial⟩) ?_
  refine zA ([Vi Ln,Vi s2,vn2,ve2]) rfl rfl (⟨hx2.c0,hx2.c1,hx2.c2,hx2.c3,trivial⟩) ?_
  refine o_step rfl rfl rfl ?_
  refine Exists.intro [(0,.agg #[Vi Ln,Vi s1,vn1,ve1]),(1,.agg #[Vi Ln,Vi s2,vn2,ve2])] (Exists.intro #[Vi Ln,Vi s1,vn1,ve1,Vi Ln,Vi s2,vn2,ve2] (And.intro (And.intro rfl rfl) (And.intro (by decide) (And.intro (fill44 _ _ _ _ _ _ _ _ _) ?_))))
  have ha:=below_alloc w3 (.cells #[Vi Ln,Vi s1,vn1,ve1,Vi Ln,Vi s2,vn2,ve2] 25)
  have hMs:=MsIn.two (Bm:=w3.heap.size) (hm.keep ha) (hm2.keep ha) ⟨cell_alloc_new rfl,cell_alloc_new rfl,cell_alloc_new rfl,cell_alloc_new rfl,cell_alloc_new rfl,cell_alloc_new rfl,cell_alloc_new rfl,cell_alloc_new rfl,trivial⟩
  have hlay:=lay_any (cm:=2) hMs (by simp) (by simp) (by omega) (by
   intro m hmm
   simp only [List.mem_cons,List.not_mem_nil,or_false] at hmm
   rcases hmm with rfl | rfl
   ·exact ⟨k1,k2,h1.s2⟩
   ·exact ⟨k3,k4,h2.s2⟩) (by rw [htg]; omega)
  rw [htg,← hg] at hlay
  refine zF rfl (en_lay) (hlay) ?_
  rintro e w5 ⟨gb,V,rfl,hG⟩
  refine ⟨_,rfl,?_⟩
  repeat first|refine zP rfl ?_|refine zK rfl ?_
  exact o_nil ⟨(gb,V),⟨rfl,rfl,trivial⟩,(h.below ha).join hG⟩
 obtain ⟨gb,gv⟩:=v
 simp only at hS h
 refine wp_seq (seq_cutx (α:=Nat × Pt × (Nat → Nat → Nat) × Nat) (fun v=>[(4,.slice none 0 0),(8,Vp gb),(9,Vp v.1)]) (fun v w'=>RefS Ln (tot + 1) g.nx g.en v.2.1 v.2.2.1 v.2.2.2 ∧ HoldP w.heap.size w w' v.1 v.2.1 (grR gb Ln tot g gv ++ [])) tab_ok hS ?_ (fun v a w5 hS h=>?_))
 ·repeat first|refine zP rfl ?_|refine zK rfl ?_
  refine zF rfl (en_refine) (refine_any h hT.gr (by omega) (by omega)) ?_
  rintro e w3 ⟨pb,p,lev,R,rfl,hR,h2⟩
  refine ⟨_,rfl,?_⟩
  repeat first|refine zP rfl ?_|refine zK rfl ?_
  exact o_nil ⟨(pb,p,lev,R),⟨rfl,rfl,rfl,trivial⟩,hR,h2⟩
 obtain ⟨pb,p,lev,R⟩:=v
 simp only at hS h
 obtain ⟨hR,V,h⟩:=h
 obtain ⟨vst,vpl,vbl,vbs,vcs,vml⟩:=V
 obtain ⟨gst,gnx,gen⟩:=gv
 have hbl:=hR.pi.bl
 obtain ⟨gbl,cbl,rfl,-⟩:=h.r.nilOr (i:=3) rfl (by omega)
 obtain ⟨gs,cs,rfl,-⟩:=h.r.nilOr (i:=8) rfl (by rw [hT.st]; simp)
 have e0 : gt g.st 0 = x0:=by rw [hT.st]; rfl
 have e1 : gt g.st 1 = y0:=by rw [hT.st]; rfl
 have hgl : g.st.length = 2:=by rw [hT.st]; rfl
 have hxx:=hT.xl
 have hyy:=hT.yl
 refine wp_seq (quiet_cut [(4,.slice none 0 0),(8,Vp gb),(9,Vp pb),(10,Vi x0),(11,Vi y0)] tab_ok mixed (by kernel_rfl) hS ?_ (fun a w6 hS hw=>?_))
 ·have c0:=h.r.cN (i:=8) rfl (j:=0) (by omega)
  have c1:=h.r.cN (i:=8) rfl (j:=1) (by omega)
  rw [e0] at c0
  rw [e1] at c1
  repeat first|refine qP rfl ?_|refine qK rfl ?_
  refine qL rfl (h.r.xcell (i:=7) rfl (j:=1) rfl) ?_
  refine qI rfl (show (0 : Int) = ((0 : Nat) : Int) from rfl) ((by omega)) ?_
  refine qL rfl (c0) ?_
  repeat first|refine qP rfl ?_|refine qK rfl ?_
  refine qL rfl (h.r.xcell (i:=7) rfl (j:=1) rfl) ?_
  refine qI rfl (show (1 : Int) = ((1 : Nat) : Int) from rfl) ((by omega)) ?_
  refine qL rfl (c1) ?_
  repeat first|refine qP rfl ?_|refine qK rfl ?_
  exact q_nil ⟨rfl,rfl,rfl,rfl,rfl,trivial⟩
 replace h:=h.below hw
 clear hw
 refine wp_seq (wp_seq (quiet_cut [(4,.slice none 0 0),(8,Vp gb),(9,Vp pb),(10,Vi x0),(11,Vi y0),(56,.bool (decide (gt p.bl x0 = gt p.bl y0)))] tab_ok mixed (by kernel_rfl) hS ?_ (fun a w7 hS hw=>?_)))
 ·repeat first|refine qP rfl ?_|refine qK rfl ?_
  refine qL rfl (h.r.xcell (i:=0) rfl (j:=2) rfl) ?_
  repeat first|refine qP rfl ?_|refine qK rfl ?_
  refine qI rfl (rfl) ((by omega)) ?_
  refine qL rfl (h.r.cN (i:=3) rfl (j:=x0) (by omega)) ?_
  repeat first|refine qP rfl ?_|refine qK rfl ?_
  refine qL rfl (h.r.xcell (i:=0) rfl (j:=2) rfl) ?_
  repeat first|refine qP rfl ?_|refine qK rfl ?_
  refine qI rfl (rfl) ((by omega)) ?_
  refine qL rfl (h.r.cN (i:=3) rfl (j:=y0) (by omega)) ?_
  refine qC rfl (decide_nat _ _) ?_
  repeat first|refine qP rfl ?_|refine qK rfl ?_
  exact q_nil ⟨rfl,rfl,rfl,rfl,rfl,rfl,trivial⟩
 replace h:=h.below hw
 clear hw
 refine cond hS rfl (fun hT2=>?_) (fun hF2=>?_)
 ·refine wp_seq (seq_cut [(4,.slice none 0 0),(5,.bool false),(6,Vi 7)] (· = w7) tab_ok hS ?_ (fun a w8 hS hw=>?_))
  ·repeat first|refine zP rfl ?_|refine zK rfl ?_
   exact o_nil ⟨⟨rfl,rfl,rfl,trivial⟩,rfl⟩
  subst hw
  have heq:=of_decide_eq_true hT2
  rw [hR.cur x0 hxx,hR.cur y0 hyy,hR.tells x0 y0 hxx hyy] at heq
  refine wp_ret ?_
  repeat (first | refine then_ret ?_ | refine block_ret ?_)
  refine noGotoR (ret3 hS rfl rfl rfl rfl ⟨_,[],false,7,rfl,(nilok _).1,(nilok w).2,h.b,.inr ⟨h0,.inr ⟨rfl,rfl,rfl,fun w hw=>?_⟩⟩⟩)
  rw [Int.toNat_natCast] at hw
  rw [← hT.g1 w hw,← hT.g2 w hw]; exact heq w hw
 have hne:=of_decide_eq_false hF2
 rw [hR.cur x0 hxx,hR.cur y0 hyy] at hne
 refine wp_skip ?_
 refine wp_seq (wp_label ?_)
 have hcs:=hR.lv.cs
 have hpos:=hR.pos
 have hfew:=hR.few
 have hdl : ∀ s c,s < tot + 1 → c < Ln → dlG g.nx Ln s c < tot + 1:=fun s c hs hc=>hT.gr.lt s c hs hc
 have hlen:=hT.gr.len
 have hLb : Ln ≤ 300:=by omega
 have hNb : tot + 1 ≤ 10000:=by omega
 have hbs : p.bs.length ≤ 100000000:=by have:=hR.pi.few; omega
 have hpt:=walkW_diff (s1:=s1) (s2:=s2) hR.lv hdl hxx hyy hpos hne hT.g1 hT.g2
 have hwsp:=walkW_spec hR.lv hdl (R - 1) x0 y0 hxx hyy (by omega) (by rw [show R - 1 + 1 = R by omega]; exact hne)
 obtain ⟨GVa,hGV⟩ : ∃ v : GV,v = ⟨Vs gs g.st.length cs,gnx,gen⟩:=⟨_,rfl⟩
 have hN : HoldP w.heap.size w w7 pb { p with bl:=p.bl } (grR gb Ln tot g GVa ++ [oN (.slice none 0 0) []]):=by
  rw [List.append_nil] at h
  refine ⟨⟨vst,vpl,Vs gbl p.bl.length cbl,vbs,vcs,vml⟩,?_⟩
  rw [hGV,← List.append_assoc]
  exact (h.nil _ _).perm (List.perm_append_comm (l₁:=[_]))
 clear h
 refine wp_seq (wp_seq (seq_cut [(4,.slice none 0 0),(8,Vp gb),(9,Vp pb),(10,Vi x0),(11,Vi y0),(12,Vi (R - 1 : Nat))] (fun w'=>HoldP w.heap.size w w' pb { p with bl:=p.bl } (grR gb Ln tot g GVa ++ [oN (.slice none 0 0) []])) tab_ok hS ?_ (fun a w8 hS h=>?_)))
 ·obtain ⟨V,h⟩:=hN
  have e1 : IntKind.i64.wrap (((p.cs.length - 1 : Nat) : Int) - 1) = ((R - 1 : Nat) : Int):=by rw [hcs]; exact i64_sub R 1 (by omega) (by omega)
  repeat first|refine zP rfl ?_|refine zK rfl ?_
  refine zF rfl (en_round) (round_any h (by omega) (by omega)) ?_
  rintro e w8 ⟨rfl,h2⟩
  refine ⟨_,rfl,?_⟩
  refine zN rfl (e1) ?_
  repeat first|refine zP rfl ?_|refine zK rfl ?_
  exact o_nil ⟨⟨rfl,rfl,rfl,rfl,rfl,rfl,trivial⟩,⟨V,h.below h2⟩⟩
 clear hN
 refine wp_block (loop0 hS (fun rd E w'=>∃ (x y : Nat) (wd bl : List Nat) (vw : Value),E = [(4,vw),(8,Vp gb),(9,Vp pb),(10,Vi x),(11,Vi y),(12,Vi rd)] ∧ rd + 1 ≤ R ∧ x < tot + 1 ∧ y < tot + 1 ∧ lev (rd + 1) x ≠ lev (rd + 1) y ∧ wd ++ walkW Ln (dlG g.nx Ln) lev rd x y = walkW Ln (dlG g.nx Ln) lev (R - 1) x0 y0 ∧ rnG (dlG g.nx Ln) x0 wd = x ∧ wd.length + rd ≤ R ∧ Backs lev (tot + 1) R rd bl ∧ HoldP w.heap.size w w' pb { p with bl:=bl } (grR gb Ln tot g GVa ++ [oN vw wd])) (R - 1)
  ⟨x0,y0,[],p.bl,_,rfl,by omega,hxx,hyy,by rw [show R - 1 + 1 = R by omega]; exact hne,rfl,rfl,by simp,⟨hbl,fun s hs=>⟨R,by omega,Nat.le_refl _,hR.cur s hs⟩⟩,h⟩ ?_)
 clear h hS
 rintro rd E w9 a ⟨x,y,wd,bl,vw,rfl,hrd,hx,hy,hap,hwk,hxe,hwl,hbk,h⟩ hS
 refine wp_seq (wp_seq (seq_cut [(4,vw),(8,Vp gb),(9,Vp pb),(10,Vi x),(11,Vi y),(12,Vi rd),(61,.bool (decide (0 < rd)))] (· = w9) tab_ok hS ?_ (fun a w10 hS hw=>?_)))
 ·repeat first|refine zP rfl ?_|refine zK rfl ?_
  refine zC rfl (gt_nat rd 0) ?_
  repeat first|refine zP rfl ?_|refine zK rfl ?_
  exact o_nil ⟨⟨rfl,rfl,rfl,rfl,rfl,rfl,rfl,trivial⟩,rfl⟩
 subst hw
 refine cond hS rfl (fun hTr=>wp_skip ?_) (fun hFr=>?_)
 rotate_left
 ·have h0r : rd = 0:=by have:=of_decide_eq_false hFr; omega
  subst h0r
  rw [show walkW Ln (dlG g.nx Ln) lev 0 x y = [] from rfl,List.append_nil] at hwk
  refine wp_exit ?_
  repeat (first | refine then_exit ?_ | refine block_exit ?_ | refine block_other rfl ?_)
  obtain ⟨⟨ust,upl,ubl,ubs,ucs,uml⟩,h⟩:=h
  obtain ⟨hst,hnx,hen⟩:=GVa
  have henl:=hT.gr.enl
  obtain ⟨ge,ce,rfl,-⟩:=h.r.nilOr (i:=10) rfl (by omega)
  refine wp_seq (quiet_cut [(4,vw),(5,.bool (enG g.en x)),(6,Vi 0)] tab_ok mixed (by kernel_rfl) hS ?_ (fun a w11 hS hw=>?_))
  ·repeat first|refine qP rfl ?_|refine qK rfl ?_
   refine qL rfl (h.r.xcell (i:=7) rfl (j:=3) rfl) ?_
   repeat first|refine qP rfl ?_|refine qK rfl ?_
   refine qI rfl (rfl) ((by omega)) ?_
   refine qL rfl (h.r.cB (i:=10) rfl (j:=x) (by omega)) ?_
   repeat first|refine qP rfl ?_|refine qK rfl ?_
   exact q_nil ⟨rfl,rfl,rfl,trivial⟩
  replace h:=h.below hw
  have hsl:=sl_nats h.r (i:=11) rfl (fun z hz=>by
   have:=(hwk ▸ hwsp.1 : Word Ln wd) z hz
   omega)
  refine wp_ret ?_
  repeat (first | refine then_ret ?_ | refine block_ret ?_)
  refine noGotoR (ret3 hS rfl rfl rfl rfl ⟨vw,wd,enG g.en x,0,rfl,hsl.1,hsl.2,h.b,.inr ⟨h0,?_⟩⟩)
  rw [Int.toNat_natCast]
  rw [← hwk] at hpt
  rw [hxe] at hpt
  exact hpt
 have hr0 : 0 < rd:=of_decide_eq_true hTr
 obtain ⟨r,rfl⟩ : ∃ r,rd = r + 1:=⟨rd - 1,by omega⟩
 refine wp_seq (cut (F:=fun a' w'=>∃ (x' y' : Nat) (wd' bl' : List Nat) (vw' : Value),St Tryz.f14.ntmps a' [(4,vw'),(8,Vp gb),(9,Vp pb),(10,Vi x'),(11,Vi y'),(12,Vi (r + 1 : Nat))] ∧ x' < tot + 1 ∧ y' < tot + 1 ∧ lev (r + 1) x' ≠ lev (r + 1) y' ∧ wd' ++ walkW Ln (dlG g.nx Ln) lev r x' y' = walkW Ln (dlG g.nx Ln) lev (R - 1) x0 y0 ∧ rnG (dlG g.nx Ln) x0 wd' = x' ∧ wd'.length + r ≤ R ∧ Backs lev (tot + 1) R (r + 1) bl' ∧ HoldP w.heap.size w w' pb { p with bl:=bl' } (grR gb Ln tot g GVa ++ [oN vw' wd'])) ?_ ?_)
 rotate_left
 ·rintro a w11 ⟨x',y',wd',bl',vw',hS,hx',hy',hap',hwk',hxe',hwl',hbk',h⟩
  refine seq_cut [(4,vw'),(8,Vp gb),(9,Vp pb),(10,Vi x'),(11,Vi y'),(12,Vi r)] (· = w11) tab_ok hS ?_ (fun a w12 hS hw=>?_)
  ·repeat first|refine zP rfl ?_|refine zK rfl ?_
   refine zN rfl (i64_sub (r + 1) 1 (by omega) (by omega)) ?_
   repeat first|refine zP rfl ?_|refine zK rfl ?_
   exact o_nil ⟨⟨rfl,rfl,rfl,rfl,rfl,rfl,trivial⟩,rfl⟩
  subst hw
  exact ⟨r,_,by omega,⟨x',y',wd',bl',vw',rfl,by omega,hx',hy',hap',hwk',hxe',hwl',hbk'.mono (by omega),h⟩,hS⟩
 refine wp_block (wp_seq (wp_seq (seq_cutx (α:=List Nat) (fun _=>[(4,vw),(8,Vp gb),(9,Vp pb),(10,Vi x),(11,Vi y),(12,Vi (r + 1 : Nat)),(68,.bool (decide (lev (r + 1) x ≠ lev (r + 1) y)))]) (fun bl' w'=>Backs lev (tot + 1) R (r + 1) bl' ∧ HoldP w.heap.size w w' pb { p with bl:=bl' } (grR gb Ln tot g GVa ++ [oN vw wd])) tab_ok hS ?_ (fun bl a w11 hS h=>?_))))
 ·repeat first|refine zP rfl ?_|refine zK rfl ?_
  refine zF rfl (en_apart) (apart_any hR.lv hbk hx hy (by omega) (by omega) hbs h) ?_
  rintro e w11 ⟨rfl,bl',hb',h'⟩
  refine ⟨_,rfl,?_⟩
  repeat first|refine zP rfl ?_|refine zK rfl ?_
  exact o_nil ⟨bl',⟨rfl,rfl,rfl,rfl,rfl,rfl,rfl,trivial⟩,hb',h'⟩
 clear hbk
 obtain ⟨hbk,h⟩:=h
 refine cond hS rfl (fun hTa=>?_) (fun hFa=>?_)
 ·have hap2:=of_decide_eq_true hTa
  rw [walkW_apart hap2] at hwk
  refine wp_exit ?_
  repeat (first | refine then_exit ?_ | refine block_exit ?_ | refine block_other rfl ?_)
  exact ⟨x,y,wd,bl,vw,hS.sub ⟨rfl,rfl,rfl,rfl,rfl,rfl,trivial⟩,hx,hy,hap2,hwk,hxe,by omega,hbk,h⟩
 have heq:=Decidable.not_not.1 (of_decide_eq_false hFa)
 refine wp_skip ?_
 obtain ⟨V0,h0'⟩:=h
 refine wp_seq (seq_cut [(4,vw),(8,Vp gb),(9,Vp pb),(10,Vi x),(11,Vi y),(12,Vi (r + 1 : Nat)),(72,Vi Ln),(73,Vi (0 : Nat))] (· = w11) tab_ok hS ?_ (fun a w12 hS hw=>?_))
 ·repeat first|refine zP rfl ?_|refine zK rfl ?_
  refine zL rfl (h0'.r.xcell (i:=7) rfl (j:=0) rfl) ?_
  repeat first|refine zP rfl ?_|refine zK rfl ?_
  exact o_nil ⟨⟨rfl,rfl,rfl,rfl,rfl,rfl,rfl,rfl,trivial⟩,rfl⟩
 subst hw
 have h : HoldP w.heap.size w w12 pb { p with bl:=bl } (grR gb Ln tot g GVa ++ [oN vw wd]):=⟨V0,h0'⟩
 clear h0'
 refine wp_block (loop0 hS (fun γ E w'=>∃ (c : Nat) (bl : List Nat),c ≤ Ln ∧ γ = Ln - c ∧ E = [(4,vw),(8,Vp gb),(9,Vp pb),(10,Vi x),(11,Vi y),(12,Vi (r + 1 : Nat)),(72,Vi Ln),(73,Vi c)] ∧ (∀ d,d < c → lev (r + 1) (dlG g.nx Ln x d) = lev (r + 1) (dlG g.nx Ln y d)) ∧ Backs lev (tot + 1) R (r + 1) bl ∧ HoldP w.heap.size w w' pb { p with bl:=bl } (grR gb Ln tot g GVa ++ [oN vw wd])) Ln
  ⟨0,bl,by omega,by omega,rfl,fun d hd=>by omega,hbk,h⟩ ?_)
 clear h hS hbk
 rintro γ E w13 a ⟨c,bl,hc,rfl,rfl,hbef,hbk,h⟩ hS
 refine wp_seq (seq_cut [(4,vw),(8,Vp gb),(9,Vp pb),(10,Vi x),(11,Vi y),(12,Vi (r + 1 : Nat)),(72,Vi Ln),(73,Vi c),(74,.bool (decide (c < Ln)))] (· = w13) tab_ok hS ?_ (fun a w14 hS hw=>?_))
 ·repeat first|refine zP rfl ?_|refine zK rfl ?_
  refine zC rfl (lt_nat _ _) ?_
  repeat first|refine zP rfl ?_|refine zK rfl ?_
  exact o_nil ⟨⟨rfl,rfl,rfl,rfl,rfl,rfl,rfl,rfl,rfl,trivial⟩,rfl⟩
 subst hw
 refine wp_seq (cond hS rfl (fun hTc=>wp_skip ?_) (fun hFc=>?_))
 rotate_left
 ·have hcc : c = Ln:=by have:=of_decide_eq_false hFc; omega
  exact (some_letter hR.lv hdl hx hy hrd (by omega) heq hap (fun d hd=>hbef d (by omega))).elim
 have hcc : c < Ln:=of_decide_eq_true hTc
 refine wp_seq (wp_block (wp_seq (seq_cut [(4,vw),(8,Vp gb),(9,Vp pb),(10,Vi x),(11,Vi y),(12,Vi (r + 1 : Nat)),(72,Vi Ln),(73,Vi c),(13,Vi c)] (· = w14) tab_ok hS ?_ (fun a w15 hS hw=>?_))))
 ·repeat first|refine zP rfl ?_|refine zK rfl ?_
  exact o_nil ⟨⟨rfl,rfl,rfl,rfl,rfl,rfl,rfl,rfl,rfl,trivial⟩,rfl⟩
 subst hw
 have hxi : x * Ln + c < g.nx.length:=by rw [hlen]; exact idx_lt hx hcc
 have hyi : y * Ln + c < g.nx.length:=by rw [hlen]; exact idx_lt hy hcc
 have hnxl : g.nx.length ≤ 1000000000:=by
  rw [hlen]
  have:=Nat.mul_le_mul hNb hLb
  omega
 obtain ⟨x1,hx1e⟩ : ∃ x1,x1 = dlG g.nx Ln x c:=⟨_,rfl⟩
 obtain ⟨y1,hy1e⟩ : ∃ y1,y1 = dlG g.nx Ln y c:=⟨_,rfl⟩
 have hx1 : x1 < tot + 1:=by rw [hx1e]; exact hdl _ _ hx hcc
 have hy1 : y1 < tot + 1:=by rw [hy1e]; exact hdl _ _ hy hcc
 refine wp_seq (seq_cut [(4,vw),(8,Vp gb),(9,Vp pb),(10,Vi x),(11,Vi y),(12,Vi (r + 1 : Nat)),(72,Vi Ln),(73,Vi c),(13,Vi c),(14,Vi x1),(15,Vi y1)] (fun w'=>HoldP w.heap.size w w' pb { p with bl:=bl } (grR gb Ln tot g GVa ++ [oN vw wd])) tab_ok hS ?_ (fun a w16 hS h=>?_))
 ·obtain ⟨V,h⟩:=h
  have hg1:=gfollow_any (s:=x) (c:=c) h.swap2 hxi hnxl (by rw [← hx1e]; omega)
  rw [← hx1e] at hg1
  repeat first|refine zP rfl ?_|refine zK rfl ?_
  refine zF rfl (en_gfollow) (hg1) ?_
  rintro e w16 ⟨rfl,hw1⟩
  refine ⟨_,rfl,?_⟩
  have h2:=h.below hw1
  have hg2:=gfollow_any (s:=y) (c:=c) h2.swap2 hyi hnxl (by rw [← hy1e]; omega)
  rw [← hy1e] at hg2
  repeat first|refine zP rfl ?_|refine zK rfl ?_
  refine zF rfl (en_gfollow) (hg2) ?_
  rintro e w17 ⟨rfl,hw2⟩
  refine ⟨_,rfl,?_⟩
  repeat first|refine zP rfl ?_|refine zK rfl ?_
  exact o_nil ⟨⟨rfl,rfl,rfl,rfl,rfl,rfl,rfl,rfl,rfl,rfl,rfl,trivial⟩,⟨V,h2.below hw2⟩⟩
 refine wp_seq (seq_cutx (α:=List Nat) (fun _=>[(4,vw),(8,Vp gb),(9,Vp pb),(10,Vi x),(11,Vi y),(12,Vi (r + 1 : Nat)),(72,Vi Ln),(73,Vi c),(13,Vi c),(14,Vi x1),(15,Vi y1),(88,.bool (decide (lev (r + 1) x1 ≠ lev (r + 1) y1)))]) (fun bl' w'=>Backs lev (tot + 1) R (r + 1) bl' ∧ HoldP w.heap.size w w' pb { p with bl:=bl' } (grR gb Ln tot g GVa ++ [oN vw wd])) tab_ok hS ?_ (fun bl a w17 hS h=>?_))
 ·repeat first|refine zP rfl ?_|refine zK rfl ?_
  refine zF rfl (en_apart) (apart_any hR.lv hbk hx1 hy1 (by omega) (by omega) hbs h) ?_
  rintro e w11 ⟨rfl,bl',hb',h'⟩
  refine ⟨_,rfl,?_⟩
  repeat first|refine zP rfl ?_|refine zK rfl ?_
  exact o_nil ⟨bl',⟨rfl,rfl,rfl,rfl,rfl,rfl,rfl,rfl,rfl,rfl,rfl,rfl,trivial⟩,hb',h'⟩
 clear hbk
 obtain ⟨hbk,h⟩:=h
 refine cond hS rfl (fun hTf=>?_) (fun hFf=>wp_skip ?_)
 ·have hap2:=of_decide_eq_true hTf
  rw [walkW_letter heq hcc (by rw [← hx1e,← hy1e]; exact hap2) hbef,← hx1e,← hy1e] at hwk
  refine wp_seq (differ_r18 (vL:=Vi Ln) h (by omega) rfl (hS.sub ⟨rfl,rfl,rfl,rfl,rfl,rfl,rfl,rfl,rfl,rfl,trivial⟩) (fun vw' a w18 hS h=>?_))
  refine wp_seq (seq_cut [(4,vw'),(8,Vp gb),(9,Vp pb),(10,Vi x1),(11,Vi y1),(12,Vi (r + 1 : Nat))] (· = w18) tab_ok hS ?_ (fun a w19 hS hw=>?_))
  ·repeat first|refine zP rfl ?_|refine zK rfl ?_
   exact o_nil ⟨⟨rfl,rfl,rfl,rfl,rfl,rfl,trivial⟩,rfl⟩
  subst hw
  refine wp_exit ?_
  repeat (first | refine then_exit ?_ | refine block_exit ?_ | refine block_other rfl ?_)
  refine ⟨x1,y1,wd ++ [c],bl,vw',hS,hx1,hy1,hap2,by rw [← hwk,List.append_assoc]; rfl,by rw [rnG_snoc,hxe,hx1e],by rw [List.length_append]; simp only [List.length_cons,List.length_nil]; omega,hbk,h⟩
 have heq2:=Decidable.not_not.1 (of_decide_eq_false hFf)
 refine block_normal ?_
 refine seq_cut [(4,vw),(8,Vp gb),(9,Vp pb),(10,Vi x),(11,Vi y),(12,Vi (r + 1 : Nat)),(72,Vi Ln),(73,Vi (c + 1 : Nat))] (· = w17) tab_ok hS ?_ (fun a w18 hS hw=>?_)
 ·repeat first|refine zP rfl ?_|refine zK rfl ?_
  refine zN rfl (i64_add c 1 (by omega)) ?_
  repeat first|refine zP rfl ?_|refine zK rfl ?_
  exact o_nil ⟨⟨rfl,rfl,rfl,rfl,rfl,rfl,rfl,rfl,trivial⟩,rfl⟩
 subst hw
 refine ⟨Ln - (c + 1),_,by omega,⟨c + 1,bl,by omega,rfl,rfl,fun d hd=>?_,hbk,h⟩,hS⟩
 by_cases e : d = c
 ·subst e; rw [← hx1e,← hy1e]; exact heq2
 ·exact hbef d (by omega)
end Go.Proofs.YthcoppfiahnpoaaGreat
namespace Go.Proofs.YthcoppfiahnpoaaGreat
open Go Sym
theorem en_aCountValid : enters Tryz.prog 26 = true:=by kernel_rfl
abbrev u64s (l : List Nat) : List Value:=l.map fun (n : Nat)=>.int .u64 (n : Int)
abbrev oU (v : Value) (l : List Nat) : Ow:=⟨v,41,1,l.length,u64s l⟩
theorem u64s_get (l : List Nat) {j : Nat} (hj : j < l.length) : (u64s l)[j]? = some (.int .u64 (gt l j : Int)):=by
 simp [gt,List.getD_eq_getElem?_getD,hj]
section
variable {base : Nat} {w0 w : World} {l : List Ow}
theorem oU_set (v : Value) (l : List Nat) (j x : Nat) : (⟨v,41,1,l.length,(u64s l).set j (.int .u64 (x : Int))⟩ : Ow) = oU v (l.set j x):=by
 rw [show (u64s l).set j (.int .u64 (x : Int)) = u64s (l.set j x) by simp [u64s,List.map_set],oU,List.length_set]
theorem Rows.cU (h : Rows base w l) {i g n c : Nat} {xs : List Nat} (hi : l[i]? = some (oU (Vs g n c) xs)) {j : Nat} (hj : j < xs.length) : w.cell? ⟨g,0 + j,none⟩ = some (.int .u64 (gt xs j : Int)):=h.cellV hi (u64s_get xs hj)
theorem Hold.storeU (h : Hold base w0 w l) {i g n c : Nat} {xs : List Nat} (hi : l[i]? = some (oU (Vs g n c) xs)) (j x : Nat) : Hold base w0 (w.setCell ⟨g,0 + j,none⟩ (.int .u64 (x : Int))) (l.set i (oU (Vs g n c) (xs.set j x))):=by
 have:=h.store hi j (.int .u64 (x : Int))
 rwa [oU_set] at this
theorem Hold.makeU (h : Hold base w0 w l) {n : Nat} (hn : n ≤ 9223372036854775807) : Hold base w0 (w.alloc (.cells (madeCells #[.int .u64 0] n) 41)) (oU (Vs w.heap.size n n) (List.replicate n 0) :: l):=by
 have h1:=h.lit (e:=41) (s:=1) (n:=n) (madeCells #[.int .u64 0] n) (by simp [madeCells]) hn
 rw [toList_madeCells_one] at h1
 simpa [oU,u64s] using h1
end
def rowU (m : Nat) (f : Nat → Nat) : List Nat:=(List.range m).map f
theorem rowU_len (m : Nat) (f : Nat → Nat) : (rowU m f).length = m:=by simp [rowU]
theorem rowU_gt {m j : Nat} (f : Nat → Nat) (h : j < m) : gt (rowU m f) j = f j:=by simp [rowU,gt,List.getD_eq_getElem?_getD,h]
theorem eq_rowU {xs : List Nat} {m : Nat} {f : Nat → Nat} (h : xs.length = m) (hf : ∀ j,j < m → gt xs j = f j) : xs = rowU m f:=by
 refine List.ext_getElem (by rw [h,rowU_len]) fun j h1 h2=>?_
 have:=hf j (by omega)
 simp only [gt,List.getD_eq_getElem?_getD,List.getElem?_eq_getElem h1,Option.getD_some] at this
 rw [this]; simp [rowU]
theorem rowU_set {m i v : Nat} {f g : Nat → Nat} (h : ∀ j,j < m → g j = if i = j then v else f j) : (rowU m f).set i v = rowU m g:=by
 refine eq_rowU (by rw [List.length_set,rowU_len]) fun j hj=>?_
 rw [gt_set,rowU_len,h j hj,rowU_gt f hj]
 by_cases e : i = j
 ·rw [if_pos ⟨e,by omega⟩,if_pos e]
 ·rw [if_neg (by omega),if_neg e]
def fA (fin : List Bool) (i j : Nat) : Nat:=if 0 < j ∧ j ≤ i ∧ fin.getD (j - 1) false = true then 1 else 0
def cU (L : Nat) (next : List (List Int)) (fin : List Bool) (k j : Nat) : Nat:=if j = 0 then 0 else cntM next fin L k ((j - 1 : Nat) : Int) % 18446744073709551616
def sU (L : Nat) (next : List (List Int)) (fin : List Bool) (k i c : Nat) : Nat:=((List.range c).map fun (d : Nat)=>cntM next fin L k (stepM next (i : Int) d)).sum % 18446744073709551616
theorem cntM_none {next : List (List Int)} {fin : List Bool} {L : Nat} : ∀ k,cntM next fin L k (-1) = 0
 | 0=>rfl
 | k + 1=>by
   unfold cntM
   have : ∀ c : Nat,cntM next fin L k (stepM next (-1) c) = 0:=fun c=>by
    rw [show stepM next (-1) c = -1 from rfl]; exact cntM_none k
   simp only [this]
   have h0 : ∀ l : List Nat,(l.map fun _=>0).sum = 0:=fun l=>by induction l <;> simp_all
   exact h0 _
theorem cU_at {L : Nat} {next : List (List Int)} {fin : List Bool} {k : Nat} {st : Int} (h : -1 ≤ st) : cU L next fin k (st + 1).toNat = cntM next fin L k st % 18446744073709551616:=by
 by_cases e : st = -1
 ·subst e
  rw [cntM_none]; rfl
 ·obtain ⟨n,rfl⟩ : ∃ n : Nat,st = n:=⟨st.toNat,by omega⟩
  rw [show ((n : Int) + 1).toNat = n + 1 by omega,cU,if_neg (by omega),Nat.add_sub_cancel]
theorem sU_step {L : Nat} {next : List (List Int)} {fin : List Bool} {k i c : Nat} : sU L next fin k i (c + 1) = (sU L next fin k i c + cntM next fin L k (stepM next (i : Int) c) % 18446744073709551616) % 18446744073709551616:=by
 simp only [sU,List.range_succ,List.map_append,List.sum_append,List.map_cons,List.map_nil,List.sum_cons,List.sum_nil]
 omega
theorem sU_all {L : Nat} {next : List (List Int)} {fin : List Bool} {k i : Nat} : sU L next fin k i L = cU L next fin (k + 1) (i + 1):=by
 rw [cU,if_neg (by omega),Nat.add_sub_cancel]; rfl
theorem u64_add (a b : Nat) : IntKind.u64.wrap ((a : Int) + (b : Int)) = (((a + b) % 18446744073709551616 : Nat) : Int):=by
 have h1 : ((a : Int) + (b : Int)) % 2 ^ 64 = (((a + b) % 18446744073709551616 : Nat) : Int):=by omega
 simp only [IntKind.wrap,IntKind.bits,IntKind.signed,h1]
 simp
theorem aCount_any (L s len : Int) (vn ve : Value) (next : List (List Int)) (fin : List Bool) (w : World) (hm : Ma w L s next fin vn ve) (hlen : I64 len) :
  Calls Tryz.prog 16 #[.agg #[Vi L,Vi s,vn,ve],Vi len] w fun e w'=>e = .returned (.tuple #[.int .u64 (countM L s next fin len).1,Vi (countM L s next fin len).2]) ∧ RowKit.Below w.heap.size w w':=by
 refine Sym.enter (args:=[.agg #[Vi L,Vi s,vn,ve],Vi len]) Tryz.func16 rfl rfl rfl (fun a0 hS0=>?_)
 obtain ⟨B,hBB⟩ : ∃ B,B = w.heap.size:=⟨_,rfl⟩
 refine wp_seq (seq_cut [(2,Vp B),(1,Vi len)] (· = w.alloc (.cells #[Vi L,Vi s,vn,ve] 25)) tab_ok hS0 ?_ (fun a wc hS hw=>?_))
 ·subst hBB
  refine zB rfl ?_
  repeat first|refine zP rfl ?_|refine zK rfl ?_
  exact o_nil ⟨⟨rfl,rfl,trivial⟩,rfl⟩
 obtain ⟨hB,hx⟩:=box_new hw
 rw [← hBB] at hx
 clear hw
 replace hm:=hm.keep hB
 refine wp_seq (wp_seq (seq_cut [(2,Vp B),(1,Vi len),(25,.bool (decide (validM L s next fin ≠ 0) || (decide (len < 0) || decide (1000 < len))))] (fun w'=>RowKit.Below wc.heap.size wc w') tab_ok hS ?_ (fun a w2 hS hw=>?_)))
 ·refine zA ([Vi L,Vi s,vn,ve]) rfl rfl (⟨hx.c0,hx.c1,hx.c2,hx.c3,trivial⟩) ?_
  refine zF rfl (en_aCountValid) (aValid_any L s vn ve next fin wc hm) ?_
  rintro e w3 ⟨rfl,h3⟩
  refine ⟨_,rfl,?_⟩
  repeat first|refine zP rfl ?_|refine zK rfl ?_
  cases h1 : decide (validM L s next fin ≠ 0)
  case true=>
   refine zC rfl (h1) ?_
   repeat first|refine zP rfl ?_|refine zK rfl ?_
   exact o_nil ⟨⟨rfl,rfl,rfl,trivial⟩,h3⟩
  refine zC rfl (h1) ?_
  repeat first|refine zP rfl ?_|refine zK rfl ?_
  cases h2 : decide (len < 0)
  case true=>
   refine zC rfl (h2) ?_
   repeat first|refine zP rfl ?_|refine zK rfl ?_
   exact o_nil ⟨⟨rfl,rfl,rfl,trivial⟩,h3⟩
  refine zC rfl (h2) ?_
  repeat first|refine zP rfl ?_|refine zK rfl ?_
  refine zC rfl (rfl) ?_
  repeat first|refine zP rfl ?_|refine zK rfl ?_
  exact o_nil ⟨⟨rfl,rfl,rfl,trivial⟩,h3⟩
 replace hx:=hx.keep hw
 replace hm:=hm.keep hw
 replace hB:=below_trans hB hw
 clear hw
 refine cond hS rfl (fun hT=>?_) (fun hF=>wp_skip ?_)
 ·refine wp_seq (seq_cut [(4,.int .u64 0),(5,Vi 1)] (· = w2) tab_ok hS ?_ (fun a w3 hS hw=>?_))
  ·repeat first|refine zP rfl ?_|refine zK rfl ?_
   exact o_nil ⟨⟨rfl,rfl,trivial⟩,rfl⟩
  subst hw
  have hc : countM L s next fin len = (0,1):=by
   simp only [Bool.or_eq_true,decide_eq_true_eq] at hT
   exact if_pos hT
  rw [hc]
  refine wp_ret ?_
  repeat (first | refine then_ret ?_ | refine block_ret ?_)
  exact ret2 hS rfl rfl rfl ⟨rfl,hB⟩
 simp only [Bool.or_eq_false_iff,decide_eq_false_iff_not,ne_eq,Decidable.not_not] at hF
 obtain ⟨hv,hl0,hl1⟩:=hF
 have hc : countM L s next fin len = (((cntM next fin L.toNat len.toNat s % 18446744073709551616 : Nat) : Int),0):=if_neg (by omega)
 obtain ⟨h1,hL,hn⟩:=shape_of_valid hv
 have hfl:=h1.fin
 obtain ⟨ln,rfl⟩ : ∃ n : Nat,len = n:=⟨len.toNat,by omega⟩
 obtain ⟨Ln,rfl⟩ : ∃ n : Nat,L = n:=⟨L.toNat,by have:=h1.L0; omega⟩
 rw [Int.toNat_natCast,Int.toNat_natCast] at hc
 have K:=fun w' (h : RowKit.Below w2.heap.size w2 w')=>And.intro (hx.keep h) (hm.keep h)
 have fin' : ∀ {w'},RowKit.Below w2.heap.size w2 w' → RowKit.Below w.heap.size w w':=fun h=>below_trans hB h
 refine wp_seq (seq_cutx (α:=Nat) (fun g=>[(2,Vp B),(1,Vi ln),(6,(Vs g (next.length + 1) (next.length + 1)))]) (fun g w'=>Hold w2.heap.size w2 w' [oU (Vs g (next.length + 1) (next.length + 1)) (rowU (next.length + 1) (fA fin 0))]) tab_ok hS ?_ (fun g a w3 hS h=>?_))
 ·obtain ⟨an,bn,on,cn,hvn,-⟩:=hm.n
  subst hvn
  repeat first|refine zP rfl ?_|refine zK rfl ?_
  refine zL rfl (hx.c2) ?_
  repeat first|refine zP rfl ?_|refine zK rfl ?_
  refine zN rfl (i64_add next.length 1 (by omega)) ?_
  refine zM (next.length + 1) rfl rfl rfl rfl rfl ((by show 8 * _ ≤ _; omega)) ((by omega)) ?_
  repeat first|refine zP rfl ?_|refine zK rfl ?_
  have h0:=(Hold.start w2).makeU (n:=next.length + 1) (by omega)
  rw [show List.replicate (next.length + 1) 0 = rowU (next.length + 1) (fA fin 0) from eq_rowU (by simp) fun j hj=>by
   rw [fA,if_neg (by omega)]; simp [gt,List.getD_eq_getElem?_getD,List.getElem?_replicate,hj]] at h0
  exact o_nil ⟨_,⟨rfl,rfl,rfl,trivial⟩,h0⟩
 refine wp_seq (wp_seq (seq_cut [(2,Vp B),(1,Vi ln),(6,(Vs g (next.length + 1) (next.length + 1))),(32,ve),(33,Vi fin.length),(34,Vi (0 : Nat))] (· = w3) tab_ok hS ?_ (fun a w' hS hw=>?_)))
 ·obtain ⟨hx,hm⟩:=K _ h.b
  obtain ⟨ae,be,oe,ce,hve,-⟩:=hm.e
  subst hve
  repeat first|refine zP rfl ?_|refine zK rfl ?_
  refine zL rfl (hx.c3) ?_
  repeat first|refine zP rfl ?_|refine zK rfl ?_
  exact o_nil ⟨⟨rfl,rfl,rfl,rfl,rfl,rfl,trivial⟩,rfl⟩
 subst hw
 refine wp_block (loop0 hS (fun γ E w'=>∃ i : Nat,i ≤ fin.length ∧ γ = fin.length - i ∧ E = [(2,Vp B),(1,Vi ln),(6,(Vs g (next.length + 1) (next.length + 1))),(32,ve),(33,Vi fin.length),(34,Vi i)] ∧ Hold w2.heap.size w2 w' [oU (Vs g (next.length + 1) (next.length + 1)) (rowU (next.length + 1) (fA fin i))]) fin.length ⟨0,by omega,by omega,rfl,h⟩ ?_)
 clear h hS
 rintro γ E w4 a ⟨i,hi,rfl,rfl,h⟩ hS
 refine wp_seq (seq_cut [(2,Vp B),(1,Vi ln),(6,(Vs g (next.length + 1) (next.length + 1))),(32,ve),(33,Vi fin.length),(34,Vi i),(35,.bool (decide (i < fin.length)))] (· = w4) tab_ok hS ?_ (fun a w5 hS hw=>?_))
 ·repeat first|refine zP rfl ?_|refine zK rfl ?_
  refine zC rfl (lt_nat _ _) ?_
  repeat first|refine zP rfl ?_|refine zK rfl ?_
  exact o_nil ⟨⟨rfl,rfl,rfl,rfl,rfl,rfl,rfl,trivial⟩,rfl⟩
 subst hw
 refine wp_seq (cond hS rfl (fun hT=>wp_skip ?_) (fun hF=>?_))
 ·have hii : i < fin.length:=of_decide_eq_true hT
  refine wp_seq (cut (F:=fun a' w'=>St Tryz.f16.ntmps a' [(2,Vp B),(1,Vi ln),(6,(Vs g (next.length + 1) (next.length + 1))),(32,ve),(33,Vi fin.length),(34,Vi i)] ∧ Hold w2.heap.size w2 w' [oU (Vs g (next.length + 1) (next.length + 1)) (rowU (next.length + 1) (fA fin (i + 1)))]) ?_ ?_)
  ·refine wp_block (wp_seq (seq_cut [(2,Vp B),(1,Vi ln),(6,(Vs g (next.length + 1) (next.length + 1))),(32,ve),(33,Vi fin.length),(34,Vi i),(7,Vi i),(8,.bool fin[i])] (· = w5) tab_ok hS ?_ (fun a w6 hS hw=>?_)))
   ·obtain ⟨hx,hm⟩:=K _ h.b
    obtain ⟨b,o,ce,hve,hcell⟩:=hm.end hii
    subst hve
    repeat first|refine zP rfl ?_|refine zK rfl ?_
    refine zI rfl (rfl) (hii) ?_
    refine zL rfl (hcell) ?_
    repeat first|refine zP rfl ?_|refine zK rfl ?_
    exact o_nil ⟨⟨rfl,rfl,rfl,rfl,rfl,rfl,rfl,rfl,trivial⟩,rfl⟩
   subst hw
   refine wp_seq (seq_cut [(2,Vp B),(1,Vi ln),(6,(Vs g (next.length + 1) (next.length + 1))),(32,ve),(33,Vi fin.length),(34,Vi i),(7,Vi i),(39,.bool fin[i])] (· = w6) tab_ok hS ?_ (fun a w7 hS hw=>?_))
   ·repeat first|refine zP rfl ?_|refine zK rfl ?_
    exact o_nil ⟨⟨rfl,rfl,rfl,rfl,rfl,rfl,rfl,rfl,trivial⟩,rfl⟩
   subst hw
   have hg : fin.getD i false = fin[i]:=by simp [List.getD_eq_getElem?_getD,hii]
   refine cond hS rfl (fun hT2=>?_) (fun hF2=>wp_skip ?_)
   ·refine seq_cut [(2,Vp B),(1,Vi ln),(6,(Vs g (next.length + 1) (next.length + 1))),(32,ve),(33,Vi fin.length),(34,Vi i)] (fun w'=>Hold w2.heap.size w2 w' [oU (Vs g (next.length + 1) (next.length + 1)) (rowU (next.length + 1) (fA fin (i + 1)))]) tab_ok hS ?_ (fun a w8 hS h=>?_)
    ·have hlt : i + 1 < (rowU (next.length + 1) (fA fin i)).length:=by rw [rowU_len]; omega
     repeat first|refine zP rfl ?_|refine zK rfl ?_
     refine zN rfl (i64_add i 1 (by omega)) ?_
     refine zI rfl (rfl) ((by omega)) ?_
     refine zS rfl rfl (h.r.cU (i:=0) rfl (j:=i + 1) hlt) (h.r.free (i:=0) rfl _) ?_
     have h2:=h.storeU (i:=0) rfl (i + 1) 1
     rw [rowU_set (g:=fA fin (i + 1)) (fun j hj=>by
      unfold fA
      by_cases e : i + 1 = j
      ·subst e
       rw [if_pos ⟨by omega,by omega,by rw [Nat.add_sub_cancel,hg]; exact hT2⟩,if_pos rfl]
      ·rw [if_neg e]
       by_cases e2 : 0 < j ∧ j ≤ i ∧ fin.getD (j - 1) false = true
       ·rw [if_pos e2,if_pos ⟨e2.1,by omega,e2.2.2⟩]
       ·rw [if_neg e2,if_neg (fun k=>e2 ⟨k.1,by omega,k.2.2⟩)])] at h2
     exact o_nil ⟨⟨rfl,rfl,rfl,rfl,rfl,rfl,trivial⟩,h2⟩
    exact ⟨hS,h⟩
   ·refine ⟨hS.sub ⟨rfl,rfl,rfl,rfl,rfl,rfl,trivial⟩,?_⟩
    rw [eq_rowU (xs:=rowU (next.length + 1) (fA fin i)) (f:=fA fin (i + 1)) (rowU_len _ _) (fun j hj=>by
     rw [rowU_gt _ hj]
     unfold fA
     by_cases e : i + 1 = j
     ·subst e
      rw [if_neg (by omega),if_neg (fun k=>by have k3:=k.2.2; rw [Nat.add_sub_cancel,hg,hF2] at k3; cases k3)]
     ·by_cases e2 : 0 < j ∧ j ≤ i ∧ fin.getD (j - 1) false = true
      ·rw [if_pos e2,if_pos ⟨e2.1,by omega,e2.2.2⟩]
      ·rw [if_neg e2,if_neg (fun k=>e2 ⟨k.1,by omega,k.2.2⟩)])] at h
    exact h
  ·rintro a w6 ⟨hS,h⟩
   refine seq_cut [(2,Vp B),(1,Vi ln),(6,(Vs g (next.length + 1) (next.length + 1))),(32,ve),(33,Vi fin.length),(34,Vi (i + 1 : Nat))] (· = w6) tab_ok hS ?_ (fun a w7 hS hw=>?_)
   ·repeat first|refine zP rfl ?_|refine zK rfl ?_
    refine zN rfl (i64_add i 1 (by omega)) ?_
    repeat first|refine zP rfl ?_|refine zK rfl ?_
    exact o_nil ⟨⟨rfl,rfl,rfl,rfl,rfl,rfl,trivial⟩,rfl⟩
   subst hw
   exact ⟨fin.length - (i + 1),_,by omega,⟨i + 1,by omega,rfl,rfl,h⟩,hS⟩
 have hii : i = fin.length:=by have:=of_decide_eq_false hF; omega
 subst hii
 refine wp_exit ?_
 repeat (first | refine then_exit ?_ | refine block_exit ?_ | refine block_other rfl ?_)
 rw [eq_rowU (xs:=rowU (next.length + 1) (fA fin fin.length)) (f:=cU Ln next fin 0) (rowU_len _ _) (fun j hj=>by
  rw [rowU_gt _ hj,fA,cU]
  by_cases e : j = 0
  ·subst e; rw [if_pos rfl,if_neg (by omega)]
  ·rw [if_neg e]
   unfold cntM endsM
   rw [Int.toNat_natCast,decide_eq_true (show (0 : Int) ≤ ((j - 1 : Nat) : Int) by omega),Bool.true_and]
   by_cases e2 : fin.getD (j - 1) false = true
   ·rw [if_pos ⟨by omega,by omega,e2⟩,if_pos e2]
   ·rw [if_neg (fun k=>e2 k.2.2),if_neg e2])] at h
 refine wp_seq (seq_cutx (α:=Nat) (fun gl=>[(2,Vp B),(1,Vi ln),(6,(Vs g (next.length + 1) (next.length + 1))),(9,(Vs gl (next.length + 1) (next.length + 1)))]) (fun gl w'=>Hold w2.heap.size w2 w' [oU (Vs gl (next.length + 1) (next.length + 1)) (List.replicate (next.length + 1) 0),oU (Vs g (next.length + 1) (next.length + 1)) (rowU (next.length + 1) (cU Ln next fin 0))]) tab_ok hS ?_ (fun gl a w6 hS h=>?_))
 ·repeat first|refine zP rfl ?_|refine zK rfl ?_
  refine zM (next.length + 1) rfl rfl rfl rfl rfl ((by show 8 * _ ≤ _; omega)) ((by omega)) ?_
  repeat first|refine zP rfl ?_|refine zK rfl ?_
  exact o_nil ⟨_,⟨rfl,rfl,rfl,rfl,trivial⟩,h.makeU (n:=next.length + 1) (by omega)⟩
 refine wp_seq (wp_seq (seq_cut [(2,Vp B),(6,(Vs g (next.length + 1) (next.length + 1))),(9,(Vs gl (next.length + 1) (next.length + 1))),(48,Vi ln),(49,Vi (0 : Nat))] (· = w6) tab_ok hS ?_ (fun a w' hS hw=>?_)))
 ·repeat first|refine zP rfl ?_|refine zK rfl ?_
  exact o_nil ⟨⟨rfl,rfl,rfl,rfl,rfl,trivial⟩,rfl⟩
 subst hw
 refine wp_block (loop0 hS (fun γ E w'=>∃ (t g gl : Nat) (xs : List Nat),t ≤ ln ∧ γ = ln - t ∧ E = [(2,Vp B),(6,(Vs g (next.length + 1) (next.length + 1))),(9,(Vs gl (next.length + 1) (next.length + 1))),(48,Vi ln),(49,Vi t)] ∧ xs.length = next.length + 1 ∧ gt xs 0 = 0 ∧ Hold w2.heap.size w2 w' [oU (Vs gl (next.length + 1) (next.length + 1)) xs,oU (Vs g (next.length + 1) (next.length + 1)) (rowU (next.length + 1) (cU Ln next fin t))]) ln ⟨0,g,gl,_,by omega,by omega,rfl,by simp,by simp [gt],h⟩ ?_)
 clear h hS
 rintro γ E w7 a ⟨t,g,gl,xs,ht,rfl,rfl,hxl,hx0,h⟩ hS
 refine wp_seq (seq_cut [(2,Vp B),(6,(Vs g (next.length + 1) (next.length + 1))),(9,(Vs gl (next.length + 1) (next.length + 1))),(48,Vi ln),(49,Vi t),(50,.bool (decide (t < ln)))] (· = w7) tab_ok hS ?_ (fun a w8 hS hw=>?_))
 ·repeat first|refine zP rfl ?_|refine zK rfl ?_
  refine zC rfl (lt_nat _ _) ?_
  repeat first|refine zP rfl ?_|refine zK rfl ?_
  exact o_nil ⟨⟨rfl,rfl,rfl,rfl,rfl,rfl,trivial⟩,rfl⟩
 subst hw
 refine wp_seq (cond hS rfl (fun hT=>wp_skip ?_) (fun hF=>?_))
 rotate_left
 ·have htt : t = ln:=by have:=of_decide_eq_false hF; omega
  subst htt
  refine wp_exit ?_
  repeat (first | refine then_exit ?_ | refine block_exit ?_ | refine block_other rfl ?_)
  obtain ⟨hx,hm⟩:=K _ h.b
  have hs1:=h1.s1
  have hs2:=h1.s2
  have hcell:=h.r.cU (i:=1) rfl (j:=(s + 1).toNat) (by rw [rowU_len]; omega)
  rw [rowU_gt _ (by omega),cU_at hs1] at hcell
  have e1 : IntKind.i64.wrap (s + 1) = (((s + 1).toNat : Nat) : Int):=by
   rw [show s + 1 = (((s + 1).toNat : Nat) : Int) by omega]; exact i64_in _ (by omega)
  refine wp_seq (seq_cut [(4,.int .u64 (((cntM next fin Ln t s % 18446744073709551616 : Nat)) : Int)),(5,Vi 0)] (· = w8) tab_ok hS ?_ (fun a w9 hS hw=>?_))
  ·repeat first|refine zP rfl ?_|refine zK rfl ?_
   refine zL rfl (hx.c1) ?_
   refine zN rfl (e1) ?_
   refine zI rfl (rfl) ((by omega)) ?_
   refine zL rfl (hcell) ?_
   repeat first|refine zP rfl ?_|refine zK rfl ?_
   exact o_nil ⟨⟨rfl,rfl,trivial⟩,rfl⟩
  subst hw
  rw [hc]
  refine wp_ret ?_
  repeat (first | refine then_ret ?_ | refine block_ret ?_)
  exact ret2 hS rfl rfl rfl ⟨rfl,fin' h.b⟩
 have htt : t < ln:=of_decide_eq_true hT
 refine wp_seq (wp_block (wp_seq (wp_seq (seq_cut [(2,Vp B),(6,(Vs g (next.length + 1) (next.length + 1))),(9,(Vs gl (next.length + 1) (next.length + 1))),(48,Vi ln),(49,Vi t),(52,vn),(53,Vi next.length),(54,Vi (0 : Nat))] (· = w8) tab_ok hS ?_ (fun a w9 hS hw=>?_)))))
 ·obtain ⟨hx,hm⟩:=K _ h.b
  obtain ⟨an,bn,on,cn,hvn,-⟩:=hm.n
  subst hvn
  repeat first|refine zP rfl ?_|refine zK rfl ?_
  refine zL rfl (hx.c2) ?_
  repeat first|refine zP rfl ?_|refine zK rfl ?_
  exact o_nil ⟨⟨rfl,rfl,rfl,rfl,rfl,rfl,rfl,rfl,trivial⟩,rfl⟩
 subst hw
 refine wp_block (loop0 hS (fun γ E w'=>∃ (i : Nat) (xs : List Nat),i ≤ next.length ∧ γ = next.length - i ∧ E = [(2,Vp B),(6,(Vs g (next.length + 1) (next.length + 1))),(9,(Vs gl (next.length + 1) (next.length + 1))),(48,Vi ln),(49,Vi t),(52,vn),(53,Vi next.length),(54,Vi i)] ∧ xs.length = next.length + 1 ∧ gt xs 0 = 0 ∧ (∀ j,j < i → gt xs (j + 1) = cU Ln next fin (t + 1) (j + 1)) ∧ Hold w2.heap.size w2 w' [oU (Vs gl (next.length + 1) (next.length + 1)) xs,oU (Vs g (next.length + 1) (next.length + 1)) (rowU (next.length + 1) (cU Ln next fin t))]) next.length ⟨0,xs,by omega,by omega,rfl,hxl,hx0,fun j hj=>by omega,h⟩ ?_)
 clear h hS hxl hx0
 rintro γ E w10 a ⟨i,xs,hi,rfl,rfl,hxl,hx0,hxs,h⟩ hS
 refine wp_seq (seq_cut [(2,Vp B),(6,(Vs g (next.length + 1) (next.length + 1))),(9,(Vs gl (next.length + 1) (next.length + 1))),(48,Vi ln),(49,Vi t),(52,vn),(53,Vi next.length),(54,Vi i),(55,.bool (decide (i < next.length)))] (· = w10) tab_ok hS ?_ (fun a w11 hS hw=>?_))
 ·repeat first|refine zP rfl ?_|refine zK rfl ?_
  refine zC rfl (lt_nat _ _) ?_
  repeat first|refine zP rfl ?_|refine zK rfl ?_
  exact o_nil ⟨⟨rfl,rfl,rfl,rfl,rfl,rfl,rfl,rfl,rfl,trivial⟩,rfl⟩
 subst hw
 refine wp_seq (cond hS rfl (fun hT=>wp_skip ?_) (fun hF=>?_))
 rotate_left
 ·have hii : i = next.length:=by have:=of_decide_eq_false hF; omega
  subst hii
  refine wp_exit ?_
  repeat (first | refine then_exit ?_ | refine block_exit ?_ | refine block_other rfl ?_)
  have hrow : xs = rowU (next.length + 1) (cU Ln next fin (t + 1)):=eq_rowU hxl fun j hj=>by
   cases j with
   | zero=>rw [hx0]; rfl
   | succ j=>exact hxs j (by omega)
  refine seq_cut [(2,Vp B),(6,(Vs gl (next.length + 1) (next.length + 1))),(9,(Vs g (next.length + 1) (next.length + 1))),(48,Vi ln),(49,Vi t)] (· = w11) tab_ok hS ?_ (fun a w12 hS hw=>?_)
  ·repeat first|refine zP rfl ?_|refine zK rfl ?_
   exact o_nil ⟨⟨rfl,rfl,rfl,rfl,rfl,trivial⟩,rfl⟩
  subst hw
  refine block_normal ?_
  refine seq_cut [(2,Vp B),(6,(Vs gl (next.length + 1) (next.length + 1))),(9,(Vs g (next.length + 1) (next.length + 1))),(48,Vi ln),(49,Vi (t + 1 : Nat))] (· = w12) tab_ok hS ?_ (fun a w13 hS hw=>?_)
  ·repeat first|refine zP rfl ?_|refine zK rfl ?_
   refine zN rfl (i64_add t 1 (by omega)) ?_
   repeat first|refine zP rfl ?_|refine zK rfl ?_
   exact o_nil ⟨⟨rfl,rfl,rfl,rfl,rfl,trivial⟩,rfl⟩
  subst hw
  rw [hrow] at h
  exact ⟨ln - (t + 1),_,by omega,⟨t + 1,gl,g,_,by omega,rfl,rfl,rowU_len _ _,by rw [rowU_gt _ (by omega)]; rfl,h.swap⟩,hS⟩
 have hii : i < next.length:=of_decide_eq_true hT
 obtain ⟨hxw,hmw⟩:=K _ h.b
 obtain ⟨hrl,hrow⟩:=h1.rows i hii
 obtain ⟨bn,on,cn,hvn,ar,cr,hcell,hcol⟩:=hmw.cell hii
 refine wp_seq (wp_block (wp_seq (seq_cut [(2,Vp B),(6,(Vs g (next.length + 1) (next.length + 1))),(9,(Vs gl (next.length + 1) (next.length + 1))),(48,Vi ln),(49,Vi t),(52,vn),(53,Vi next.length),(54,Vi i),(10,Vi i),(11,.slice ar next[i].length cr)] (· = w11) tab_ok hS ?_ (fun a w12 hS hw=>?_))))
 ·subst hvn
  repeat first|refine zP rfl ?_|refine zK rfl ?_
  refine zI rfl (rfl) (hii) ?_
  refine zL rfl (hcell) ?_
  repeat first|refine zP rfl ?_|refine zK rfl ?_
  exact o_nil ⟨⟨rfl,rfl,rfl,rfl,rfl,rfl,rfl,rfl,rfl,rfl,trivial⟩,rfl⟩
 subst hw
 refine wp_seq (seq_cut [(2,Vp B),(6,(Vs g (next.length + 1) (next.length + 1))),(9,(Vs gl (next.length + 1) (next.length + 1))),(48,Vi ln),(49,Vi t),(52,vn),(53,Vi next.length),(54,Vi i),(10,Vi i),(11,.slice ar next[i].length cr),(12,.int .u64 0)] (· = w12) tab_ok hS ?_ (fun a w13 hS hw=>?_))
 ·repeat first|refine zP rfl ?_|refine zK rfl ?_
  exact o_nil ⟨⟨rfl,rfl,rfl,rfl,rfl,rfl,rfl,rfl,rfl,rfl,rfl,trivial⟩,rfl⟩
 subst hw
 refine wp_seq (wp_seq (seq_cut [(2,Vp B),(6,(Vs g (next.length + 1) (next.length + 1))),(9,(Vs gl (next.length + 1) (next.length + 1))),(48,Vi ln),(49,Vi t),(52,vn),(53,Vi next.length),(54,Vi i),(10,Vi i),(59,.slice ar next[i].length cr),(60,Vi (next[i].length : Int)),(12,.int .u64 ((sU Ln next fin t i 0 : Nat) : Int)),(61,Vi (0 : Nat))] (· = w13) tab_ok hS ?_ (fun a w14 hS hw=>?_)))
 ·repeat first|refine zP rfl ?_|refine zK rfl ?_
  exact o_nil ⟨⟨rfl,rfl,rfl,rfl,rfl,rfl,rfl,rfl,rfl,rfl,rfl,rfl,rfl,trivial⟩,rfl⟩
 subst hw
 refine wp_block (loop0 hS (fun γ E w'=>∃ c : Nat,c ≤ next[i].length ∧ γ = next[i].length - c ∧ E = [(2,Vp B),(6,(Vs g (next.length + 1) (next.length + 1))),(9,(Vs gl (next.length + 1) (next.length + 1))),(48,Vi ln),(49,Vi t),(52,vn),(53,Vi next.length),(54,Vi i),(10,Vi i),(59,.slice ar next[i].length cr),(60,Vi (next[i].length : Int)),(12,.int .u64 ((sU Ln next fin t i c : Nat) : Int)),(61,Vi c)] ∧ w' = w14) next[i].length ⟨0,by omega,by omega,rfl,rfl⟩ ?_)
 clear hS
 rintro γ E w15 a ⟨c,hc',rfl,rfl,rfl⟩ hS
 refine wp_seq (seq_cut [(2,Vp B),(6,(Vs g (next.length + 1) (next.length + 1))),(9,(Vs gl (next.length + 1) (next.length + 1))),(48,Vi ln),(49,Vi t),(52,vn),(53,Vi next.length),(54,Vi i),(10,Vi i),(59,.slice ar next[i].length cr),(60,Vi (next[i].length : Int)),(12,.int .u64 ((sU Ln next fin t i c : Nat) : Int)),(61,Vi c),(62,.bool (decide (c < next[i].length)))] (· = w15) tab_ok hS ?_ (fun a w16 hS hw=>?_))
 ·repeat first|refine zP rfl ?_|refine zK rfl ?_
  refine zC rfl (lt_nat _ _) ?_
  repeat first|refine zP rfl ?_|refine zK rfl ?_
  exact o_nil ⟨⟨rfl,rfl,rfl,rfl,rfl,rfl,rfl,rfl,rfl,rfl,rfl,rfl,rfl,rfl,trivial⟩,rfl⟩
 subst hw
 have hrl' : next[i].length = Ln:=by omega
 refine wp_seq (cond hS rfl (fun hT=>wp_skip ?_) (fun hF=>?_))
 rotate_left
 ·have hcc : c = Ln:=by have:=of_decide_eq_false hF; omega
  subst hcc
  rw [sU_all] at hS
  refine wp_exit ?_
  repeat (first | refine then_exit ?_ | refine block_exit ?_ | refine block_other rfl ?_)
  have hlt : i + 1 < xs.length:=by omega
  refine seq_cut [(2,Vp B),(6,(Vs g (next.length + 1) (next.length + 1))),(9,(Vs gl (next.length + 1) (next.length + 1))),(48,Vi ln),(49,Vi t),(52,vn),(53,Vi next.length),(54,Vi i)] (fun w'=>Hold w2.heap.size w2 w' [oU (Vs gl (next.length + 1) (next.length + 1)) (xs.set (i + 1) (cU c next fin (t + 1) (i + 1))),oU (Vs g (next.length + 1) (next.length + 1)) (rowU (next.length + 1) (cU c next fin t))]) tab_ok hS ?_ (fun a w17 hS h=>?_)
  ·repeat first|refine zP rfl ?_|refine zK rfl ?_
   refine zN rfl (i64_add i 1 (by omega)) ?_
   repeat first|refine zP rfl ?_|refine zK rfl ?_
   refine zI rfl (rfl) ((by omega)) ?_
   refine zS rfl rfl (h.r.cU (i:=0) rfl (j:=i + 1) hlt) (h.r.free (i:=0) rfl _) ?_
   exact o_nil ⟨⟨rfl,rfl,rfl,rfl,rfl,rfl,rfl,rfl,trivial⟩,h.storeU (i:=0) rfl (i + 1) _⟩
  refine block_normal ?_
  refine seq_cut [(2,Vp B),(6,(Vs g (next.length + 1) (next.length + 1))),(9,(Vs gl (next.length + 1) (next.length + 1))),(48,Vi ln),(49,Vi t),(52,vn),(53,Vi next.length),(54,Vi (i + 1 : Nat))] (· = w17) tab_ok hS ?_ (fun a w18 hS hw=>?_)
  ·repeat first|refine zP rfl ?_|refine zK rfl ?_
   refine zN rfl (i64_add i 1 (by omega)) ?_
   repeat first|refine zP rfl ?_|refine zK rfl ?_
   exact o_nil ⟨⟨rfl,rfl,rfl,rfl,rfl,rfl,rfl,rfl,trivial⟩,rfl⟩
  subst hw
  refine ⟨next.length - (i + 1),_,by omega,⟨i + 1,_,by omega,rfl,rfl,by rw [List.length_set]; exact hxl,by rw [gt_set,if_neg (by omega)]; exact hx0,fun j hj=>?_,h⟩,hS⟩
  rw [gt_set]
  by_cases e : i = j
  ·subst e; rw [if_pos ⟨rfl,by omega⟩]
  ·rw [if_neg (by omega)]; exact hxs j (by omega)
 have hcc : c < next[i].length:=of_decide_eq_true hT
 obtain ⟨br,orr,har,hcl⟩:=hcol c hcc
 obtain ⟨x,hxe⟩ : ∃ x,x = next[i][c]:=⟨_,rfl⟩
 obtain ⟨hx1,hx2⟩:=hrow c hcc
 rw [← hxe] at hcl hx1 hx2
 have hst : stepM next (i : Int) c = x:=by
  rw [stepM,if_neg (by omega),Int.toNat_natCast,Int.toNat_natCast]
  simp [List.getD_eq_getElem?_getD,hii,hcc,hxe]
 have e1 : IntKind.i64.wrap (x + 1) = (((x + 1).toNat : Nat) : Int):=by
  rw [show x + 1 = (((x + 1).toNat : Nat) : Int) by omega]; exact i64_in _ (by omega)
 have hcu:=h.r.cU (i:=1) rfl (j:=(x + 1).toNat) (by rw [rowU_len]; omega)
 rw [rowU_gt _ (by omega),cU_at hx1] at hcu
 refine wp_seq (wp_block (wp_seq (seq_cut [(2,Vp B),(6,(Vs g (next.length + 1) (next.length + 1))),(9,(Vs gl (next.length + 1) (next.length + 1))),(48,Vi ln),(49,Vi t),(52,vn),(53,Vi next.length),(54,Vi i),(10,Vi i),(59,.slice ar next[i].length cr),(60,Vi (next[i].length : Int)),(12,.int .u64 ((sU Ln next fin t i c : Nat) : Int)),(61,Vi c),(14,Vi x)] (· = w16) tab_ok hS ?_ (fun a w17 hS hw=>?_))))
 ·subst har
  repeat first|refine zP rfl ?_|refine zK rfl ?_
  refine zI rfl (rfl) (hcc) ?_
  refine zL rfl (hcl) ?_
  repeat first|refine zP rfl ?_|refine zK rfl ?_
  exact o_nil ⟨⟨rfl,rfl,rfl,rfl,rfl,rfl,rfl,rfl,rfl,rfl,rfl,rfl,rfl,rfl,trivial⟩,rfl⟩
 subst hw
 refine seq_cut [(2,Vp B),(6,(Vs g (next.length + 1) (next.length + 1))),(9,(Vs gl (next.length + 1) (next.length + 1))),(48,Vi ln),(49,Vi t),(52,vn),(53,Vi next.length),(54,Vi i),(10,Vi i),(59,.slice ar next[i].length cr),(60,Vi (next[i].length : Int)),(12,.int .u64 ((sU Ln next fin t i (c + 1) : Nat) : Int)),(61,Vi c)] (· = w17) tab_ok hS ?_ (fun a w18 hS hw=>?_)
 ·have e2:=u64_add (sU Ln next fin t i c) (cntM next fin Ln t x % 18446744073709551616)
  rw [← hst,← sU_step,hst] at e2
  repeat first|refine zP rfl ?_|refine zK rfl ?_
  refine zN rfl (e1) ?_
  refine zI rfl (rfl) ((by omega)) ?_
  refine zL rfl (hcu) ?_
  refine zN rfl (e2) ?_
  repeat first|refine zP rfl ?_|refine zK rfl ?_
  exact o_nil ⟨⟨rfl,rfl,rfl,rfl,rfl,rfl,rfl,rfl,rfl,rfl,rfl,rfl,rfl,trivial⟩,rfl⟩
 subst hw
 refine block_normal ?_
 refine seq_cut [(2,Vp B),(6,(Vs g (next.length + 1) (next.length + 1))),(9,(Vs gl (next.length + 1) (next.length + 1))),(48,Vi ln),(49,Vi t),(52,vn),(53,Vi next.length),(54,Vi i),(10,Vi i),(59,.slice ar next[i].length cr),(60,Vi (next[i].length : Int)),(12,.int .u64 ((sU Ln next fin t i (c + 1) : Nat) : Int)),(61,Vi (c + 1 : Nat))] (· = w18) tab_ok hS ?_ (fun a w19 hS hw=>?_)
 ·repeat first|refine zP rfl ?_|refine zK rfl ?_
  refine zN rfl (i64_add c 1 (by omega)) ?_
  repeat first|refine zP rfl ?_|refine zK rfl ?_
  exact o_nil ⟨⟨rfl,rfl,rfl,rfl,rfl,rfl,rfl,rfl,rfl,rfl,rfl,rfl,rfl,trivial⟩,rfl⟩
 subst hw
 exact ⟨next[i].length - (c + 1),_,by omega,⟨c + 1,by omega,rfl,rfl,rfl⟩,hS⟩
theorem aCount_c : CountC 16:=fun L s len vn ve next fin w hm hl _=>aCount_any L s len vn ve next fin w hm hl
end Go.Proofs.YthcoppfiahnpoaaGreat
namespace Go.Proofs.YthcoppfiahnpoaaGreat
open Go Sym
theorem en_isNaN : enters Tryz.prog 96 = true:=by kernel_rfl
theorem en_Compare : enters Tryz.prog 71 = true:=by kernel_rfl
theorem en_Or : enters Tryz.prog 70 = true:=by kernel_rfl
theorem en_aorder : enters Tryz.prog 41 = true:=by kernel_rfl
theorem en_anowhere : enters Tryz.prog 21 = true:=by kernel_rfl
theorem en_astarts : enters Tryz.prog 39 = true:=by kernel_rfl
theorem en_afollowBoth : enters Tryz.prog 37 = true:=by kernel_rfl
theorem en_aisRelation : enters Tryz.prog 44 = true:=by kernel_rfl
def cmpI (x y : Int) : Int:=if x < y then -1 else if y < x then 1 else 0
def orL : List Int → Int
 | []=>0
 | x :: l=>if x ≠ 0 then x else orL l
def ordP (a b c d : Int) : Int:=orL [cmpI a c,cmpI b d]
theorem ordP_ge (a b c d : Int) : 0 ≤ ordP a b c d ↔ ¬ (a < c ∨ (a = c ∧ b < d)):=by
 unfold ordP orL orL orL cmpI
 repeat' split
 all_goals omega
theorem orL_drop : ∀ (i : Nat) (l : List Int),(∀ j (h : j < l.length),j < i → l[j] = 0) → orL l = orL (l.drop i)
 | 0,l,_=>rfl
 | i + 1,[],_=>rfl
 | i + 1,x :: l,h=>by
   have h0 : x = 0:=h 0 (by simp) (by omega)
   rw [List.drop_succ_cons,← orL_drop i l (fun j hj hji=>h (j + 1) (by simpa using hj) (by omega)),orL,if_neg (by omega)]
theorem isNaN_any (x : Int) (w : World) : Calls Tryz.prog 96 #[Vi x] w fun e w'=>e = .returned (.bool false) ∧ w' = w:=by
 refine Sym.enter (args:=[Vi x]) Tryz.func96 rfl rfl rfl (fun a0 hS0=>?_)
 refine wp_seq (seq_cut [(0,Vi x)] (· = w) tab_ok hS0 ?_ (fun a w1 hS hw=>?_))
 ·repeat first|refine zP rfl ?_|refine zK rfl ?_
  exact o_nil ⟨⟨rfl,trivial⟩,rfl⟩
 subst hw
 refine wp_seq (seq_cut [(2,.bool false)] (· = w1) tab_ok hS ?_ (fun a w2 hS hw=>?_))
 ·repeat first|refine zP rfl ?_|refine zK rfl ?_
  refine zC rfl (show decide (x ≠ x) = false by simp) ?_
  repeat first|refine zP rfl ?_|refine zK rfl ?_
  exact o_nil ⟨⟨rfl,trivial⟩,rfl⟩
 subst hw
 refine wp_ret ?_
 repeat (first | refine then_ret ?_ | refine block_ret ?_)
 exact ret1 hS rfl rfl ⟨rfl,rfl⟩
theorem compare_any (x y : Int) (w : World) : Calls Tryz.prog 71 #[Vi x,Vi y] w fun e w'=>e = .returned (Vi (cmpI x y)) ∧ RowKit.Below w.heap.size w w':=by
 refine Sym.enter (args:=[Vi x,Vi y]) Tryz.func71 rfl rfl rfl (fun a0 hS0=>?_)
 refine wp_seq (seq_cut [(0,Vi x),(1,Vi y)] (· = w) tab_ok hS0 ?_ (fun a w1 hS hw=>?_))
 ·repeat first|refine zP rfl ?_|refine zK rfl ?_
  exact o_nil ⟨⟨rfl,rfl,trivial⟩,rfl⟩
 subst hw
 have hB:=RowKit.Below.refl w1.heap.size w1
 refine wp_seq (seq_cut [(0,Vi x),(1,Vi y),(5,.bool false)] (· = w1) tab_ok hS ?_ (fun a w2 hS hw=>?_))
 ·repeat first|refine zP rfl ?_|refine zK rfl ?_
  refine zF rfl (en_isNaN) (isNaN_any x w1) ?_
  rintro e w2 ⟨rfl,rfl⟩
  refine ⟨_,rfl,?_⟩
  repeat first|refine zP rfl ?_|refine zK rfl ?_
  exact o_nil ⟨⟨rfl,rfl,rfl,trivial⟩,rfl⟩
 subst hw
 refine wp_seq (seq_cut [(0,Vi x),(1,Vi y),(5,.bool false),(6,.bool false)] (· = w2) tab_ok hS ?_ (fun a w3 hS hw=>?_))
 ·repeat first|refine zP rfl ?_|refine zK rfl ?_
  refine zF rfl (en_isNaN) (isNaN_any y w2) ?_
  rintro e w2 ⟨rfl,rfl⟩
  refine ⟨_,rfl,?_⟩
  repeat first|refine zP rfl ?_|refine zK rfl ?_
  exact o_nil ⟨⟨rfl,rfl,rfl,rfl,trivial⟩,rfl⟩
 subst hw
 refine wp_seq (wp_seq (seq_cut [(0,Vi x),(1,Vi y),(6,.bool false),(11,.bool false)] (· = w3) tab_ok hS ?_ (fun a w4 hS hw=>?_)))
 ·repeat first|refine zP rfl ?_|refine zK rfl ?_
  exact o_nil ⟨⟨rfl,rfl,rfl,rfl,trivial⟩,rfl⟩
 subst hw
 refine cond hS rfl (fun hT=>by cases hT) (fun hF=>wp_skip ?_)
 refine wp_seq (wp_seq (seq_cut [(0,Vi x),(1,Vi y),(13,.bool false)] (· = w4) tab_ok hS ?_ (fun a w5 hS hw=>?_)))
 ·repeat first|refine zP rfl ?_|refine zK rfl ?_
  exact o_nil ⟨⟨rfl,rfl,rfl,trivial⟩,rfl⟩
 subst hw
 refine cond hS rfl (fun hT=>by cases hT) (fun hF=>wp_skip ?_)
 refine wp_seq (wp_seq (seq_cut [(0,Vi x),(1,Vi y),(16,.bool (decide (x < y)))] (· = w5) tab_ok hS ?_ (fun a w6 hS hw=>?_)))
 ·repeat first|refine zP rfl ?_|refine zK rfl ?_
  refine zC rfl (rfl) ?_
  repeat first|refine zP rfl ?_|refine zK rfl ?_
  exact o_nil ⟨⟨rfl,rfl,rfl,trivial⟩,rfl⟩
 subst hw
 refine cond hS rfl (fun hT=>?_) (fun hF=>wp_skip ?_)
 ·refine wp_seq (seq_cut [(4,Vi (-1))] (· = w6) tab_ok hS ?_ (fun a w7 hS hw=>?_))
  ·repeat first|refine zP rfl ?_|refine zK rfl ?_
   exact o_nil ⟨⟨rfl,trivial⟩,rfl⟩
  subst hw
  refine wp_ret ?_
  repeat (first | refine then_ret ?_ | refine block_ret ?_)
  exact ret1 hS rfl rfl ⟨by rw [cmpI,if_pos (of_decide_eq_true hT)],hB⟩
 have h1:=of_decide_eq_false hF
 refine wp_seq (wp_seq (seq_cut [(0,Vi x),(1,Vi y),(19,.bool (decide (y < x)))] (· = w6) tab_ok hS ?_ (fun a w7 hS hw=>?_)))
 ·repeat first|refine zP rfl ?_|refine zK rfl ?_
  refine zC rfl (rfl) ?_
  repeat first|refine zP rfl ?_|refine zK rfl ?_
  exact o_nil ⟨⟨rfl,rfl,rfl,trivial⟩,rfl⟩
 subst hw
 refine cond hS rfl (fun hT=>?_) (fun hF=>wp_skip ?_)
 ·refine wp_seq (seq_cut [(4,Vi 1)] (· = w7) tab_ok hS ?_ (fun a w8 hS hw=>?_))
  ·repeat first|refine zP rfl ?_|refine zK rfl ?_
   exact o_nil ⟨⟨rfl,trivial⟩,rfl⟩
  subst hw
  refine wp_ret ?_
  repeat (first | refine then_ret ?_ | refine block_ret ?_)
  exact ret1 hS rfl rfl ⟨by rw [cmpI,if_neg h1,if_pos (of_decide_eq_true hT)],hB⟩
 refine wp_seq (seq_cut [(4,Vi 0)] (· = w7) tab_ok hS ?_ (fun a w8 hS hw=>?_))
 ·repeat first|refine zP rfl ?_|refine zK rfl ?_
  exact o_nil ⟨⟨rfl,trivial⟩,rfl⟩
 subst hw
 refine wp_ret ?_
 repeat (first | refine then_ret ?_ | refine block_ret ?_)
 exact ret1 hS rfl rfl ⟨by rw [cmpI,if_neg h1,if_neg (of_decide_eq_false hF)],hB⟩
theorem or_any (v : Value) (l : List Int) (w : World) (hl : Sl w v l PInt) : Calls Tryz.prog 70 #[v] w fun e w'=>e = .returned (Vi (orL l)) ∧ RowKit.Below w.heap.size w w':=by
 refine Sym.enter (args:=[v]) Tryz.func70 rfl rfl rfl (fun a0 hS0=>?_)
 have hB:=RowKit.Below.refl w.heap.size w
 obtain ⟨al,bl,ol,cl,rfl,h1,h2,h3,h4⟩:=hl
 refine wp_seq (seq_cut [(0,.slice al l.length cl)] (· = w) tab_ok hS0 ?_ (fun a w1 hS hw=>?_))
 ·repeat first|refine zP rfl ?_|refine zK rfl ?_
  exact o_nil ⟨⟨rfl,trivial⟩,rfl⟩
 subst hw
 refine wp_seq (seq_cut [(0,.slice al l.length cl),(3,Vi 0)] (· = w1) tab_ok hS ?_ (fun a w2 hS hw=>?_))
 ·repeat first|refine zP rfl ?_|refine zK rfl ?_
  exact o_nil ⟨⟨rfl,rfl,trivial⟩,rfl⟩
 subst hw
 refine wp_seq (wp_seq (seq_cut [(3,Vi 0),(6,.slice al l.length cl),(7,Vi l.length),(8,Vi (0 : Nat))] (· = w2) tab_ok hS ?_ (fun a w3 hS hw=>?_)))
 ·repeat first|refine zP rfl ?_|refine zK rfl ?_
  exact o_nil ⟨⟨rfl,rfl,rfl,rfl,trivial⟩,rfl⟩
 subst hw
 refine wp_block (loop0 hS (fun γ E w'=>∃ i : Nat,i ≤ l.length ∧ γ = l.length - i ∧ E = [(3,Vi 0),(6,.slice al l.length cl),(7,Vi l.length),(8,Vi i)] ∧ w' = w3 ∧ ∀ j (h : j < l.length),j < i → l[j] = 0) l.length ⟨0,by omega,by omega,rfl,rfl,fun j _ hj=>by omega⟩ ?_)
 clear hS
 rintro γ E w4 a ⟨i,hi,rfl,rfl,rfl,hz⟩ hS
 refine wp_seq (seq_cut [(3,Vi 0),(6,.slice al l.length cl),(7,Vi l.length),(8,Vi i),(9,.bool (decide (i < l.length)))] (· = w4) tab_ok hS ?_ (fun a w5 hS hw=>?_))
 ·repeat first|refine zP rfl ?_|refine zK rfl ?_
  refine zC rfl (lt_nat _ _) ?_
  repeat first|refine zP rfl ?_|refine zK rfl ?_
  exact o_nil ⟨⟨rfl,rfl,rfl,rfl,rfl,trivial⟩,rfl⟩
 subst hw
 refine wp_seq (cond hS rfl (fun hT=>wp_skip ?_) (fun hF=>?_))
 rotate_left
 ·have hii : i = l.length:=by have:=of_decide_eq_false hF; omega
  refine wp_exit ?_
  repeat (first | refine then_exit ?_ | refine block_exit ?_ | refine block_other rfl ?_)
  refine wp_seq (seq_cut [(2,Vi 0)] (· = w5) tab_ok hS ?_ (fun a w6 hS hw=>?_))
  ·repeat first|refine zP rfl ?_|refine zK rfl ?_
   exact o_nil ⟨⟨rfl,trivial⟩,rfl⟩
  subst hw
  refine wp_ret ?_
  repeat (first | refine then_ret ?_ | refine block_ret ?_)
  exact ret1 hS rfl rfl ⟨by rw [orL_drop i l hz,List.drop_eq_nil_of_le (by omega)]; rfl,hB⟩
 have hii : i < l.length:=of_decide_eq_true hT
 obtain rfl:=h1 (by omega)
 obtain ⟨y,hy,rfl,-⟩:=h4 i hii
 have hor : orL l = if l[i] ≠ 0 then l[i] else orL (l.drop (i + 1)):=by
  rw [orL_drop i l hz,List.drop_eq_getElem_cons hii]; rfl
 refine wp_seq (wp_block (wp_seq (seq_cut [(3,Vi 0),(6,.slice (some ⟨bl,ol,none⟩) l.length cl),(7,Vi l.length),(8,Vi i),(5,Vi l[i])] (· = w5) tab_ok hS ?_ (fun a w6 hS hw=>?_))))
 ·repeat first|refine zP rfl ?_|refine zK rfl ?_
  refine zI rfl (rfl) (hii) ?_
  refine zL rfl (hy) ?_
  repeat first|refine zP rfl ?_|refine zK rfl ?_
  exact o_nil ⟨⟨rfl,rfl,rfl,rfl,rfl,trivial⟩,rfl⟩
 subst hw
 refine wp_seq (seq_cut [(3,Vi 0),(6,.slice (some ⟨bl,ol,none⟩) l.length cl),(7,Vi l.length),(8,Vi i),(5,Vi l[i]),(14,.bool (decide (l[i] ≠ 0)))] (· = w6) tab_ok hS ?_ (fun a w7 hS hw=>?_))
 ·repeat first|refine zP rfl ?_|refine zK rfl ?_
  refine zC rfl (rfl) ?_
  repeat first|refine zP rfl ?_|refine zK rfl ?_
  exact o_nil ⟨⟨rfl,rfl,rfl,rfl,rfl,rfl,trivial⟩,rfl⟩
 subst hw
 refine cond hS rfl (fun hT2=>?_) (fun hF2=>wp_skip ?_)
 ·refine wp_seq (seq_cut [(2,Vi l[i])] (· = w7) tab_ok hS ?_ (fun a w8 hS hw=>?_))
  ·repeat first|refine zP rfl ?_|refine zK rfl ?_
   exact o_nil ⟨⟨rfl,trivial⟩,rfl⟩
  subst hw
  refine wp_ret ?_
  repeat (first | refine then_ret ?_ | refine block_ret ?_)
  exact ret1 hS rfl rfl ⟨by rw [hor,if_pos (of_decide_eq_true hT2)],hB⟩
 have h0:=Decidable.not_not.1 (of_decide_eq_false hF2)
 refine block_normal ?_
 refine seq_cut [(3,Vi 0),(6,.slice (some ⟨bl,ol,none⟩) l.length cl),(7,Vi l.length),(8,Vi (i + 1 : Nat))] (· = w7) tab_ok hS ?_ (fun a w8 hS hw=>?_)
 ·repeat first|refine zP rfl ?_|refine zK rfl ?_
  refine zN rfl (i64_add i 1 (by omega)) ?_
  repeat first|refine zP rfl ?_|refine zK rfl ?_
  exact o_nil ⟨⟨rfl,rfl,rfl,rfl,trivial⟩,rfl⟩
 subst hw
 refine ⟨l.length - (i + 1),_,by omega,⟨i + 1,by omega,rfl,rfl,rfl,fun j hj hji=>?_⟩,hS⟩
 rcases Nat.lt_or_ge j i with h | h
 ·exact hz j hj h
 ·obtain rfl : j = i:=by omega
  exact h0
theorem pair_boxes {w wc : World} {a b c d : Int} (hw : wc = (w.alloc (.cells #[Vi a,Vi b] 48)).alloc (.cells #[Vi c,Vi d] 48)) : RowKit.Below w.heap.size w wc ∧ BoxP wc w.heap.size a b ∧ BoxP wc (w.heap.size + 1) c d:=by
 have hB1:=below_alloc w (.cells #[Vi a,Vi b] 48)
 have hB2:=below_alloc (w.alloc (.cells #[Vi a,Vi b] 48)) (.cells #[Vi c,Vi d] 48)
 have h2:=BoxP.new (w.alloc (.cells #[Vi a,Vi b] 48)) c d 48
 rw [alloc_size] at h2
 rw [hw]
 exact ⟨below_trans hB1 hB2,(BoxP.new w a b 48).keep hB2,h2⟩
theorem cmpI_in (x y : Int) : I64 (cmpI x y):=by
 unfold cmpI I64
 repeat' split
 all_goals omega
set_option maxHeartbeats 2000000 in
theorem aorder_any (p q c d : Int) (w : World) : Calls Tryz.prog 41 #[.agg #[Vi p,Vi q],.agg #[Vi c,Vi d]] w fun e w'=>e = .returned (Vi (ordP p q c d)) ∧ RowKit.Below w.heap.size w w':=by
 refine Sym.enter (args:=[.agg #[Vi p,Vi q],.agg #[Vi c,Vi d]]) Tryz.func41 rfl rfl rfl (fun a0 hS0=>?_)
 obtain ⟨B,hBB⟩ : ∃ B,B = w.heap.size:=⟨_,rfl⟩
 refine wp_seq (seq_cut [(2,Vp B),(3,Vp (B + 1))] (· = (w.alloc (.cells #[Vi p,Vi q] 48)).alloc (.cells #[Vi c,Vi d] 48)) tab_ok hS0 ?_ (fun a w1 hS hw=>?_))
 ·subst hBB
  refine zB rfl ?_
  refine zB rfl ?_
  rw [alloc_size]
  repeat first|refine zP rfl ?_|refine zK rfl ?_
  exact o_nil ⟨⟨rfl,rfl,trivial⟩,rfl⟩
 obtain ⟨hB,hx,hz⟩:=pair_boxes hw
 rw [← hBB] at hx hz
 clear hw
 refine wp_seq (any_cut 13 [(4,Vi (ordP p q c d))] (fun w'=>RowKit.Below w1.heap.size w1 w') mixed hS ?_ (fun a w2 hS hw=>?_))
 ·have hy : RowKit.Below w1.drew.heap.size w1.drew w1.drew:=RowKit.Below.refl _ _
  refine yT 0 tab_ok rfl (by kernel_rfl) hy rfl (rfl) ?_
  refine yL 1 tab_ok rfl (by kernel_rfl) hy rfl rfl (hx.c0) ?_
  refine yT 2 tab_ok rfl (by kernel_rfl) hy rfl (rfl) ?_
  refine yL 3 tab_ok rfl (by kernel_rfl) hy rfl rfl (hz.c0) ?_
  refine yT 5 tab_ok rfl (by kernel_rfl) hy rfl (rfl) ?_
  refine yL 6 tab_ok rfl (by kernel_rfl) hy rfl rfl (hx.c1) ?_
  refine yT 7 tab_ok rfl (by kernel_rfl) hy rfl (rfl) ?_
  refine yL 8 tab_ok rfl (by kernel_rfl) hy rfl rfl (hz.c1) ?_
  refine y_one 4 (by kernel_rfl) (y_op 4 tab_ok rfl rfl rfl rfl ?_)
  refine And.intro en_Compare ((compare_any p c _).mono ?_)
  rintro e w2 ⟨rfl,h1⟩
  refine ⟨_,rfl,?_⟩
  refine And.intro (.inr h1) ?_
  refine y_one 9 (by kernel_rfl) (y_op 9 tab_ok rfl rfl rfl rfl ?_)
  refine And.intro en_Compare ((compare_any q d _).mono ?_)
  rintro e w3 ⟨rfl,h2⟩
  refine ⟨_,rfl,?_⟩
  have hy2:=below_trans h1 h2
  refine And.intro (.inr hy2) ?_
  refine y_one 10 (by kernel_rfl) (y_op 10 tab_ok rfl rfl rfl rfl ?_)
  refine Exists.intro [(0,Vi (cmpI p c)),(1,Vi (cmpI q d))] (Exists.intro _ (And.intro (And.intro rfl rfl) (And.intro (by decide) (And.intro (fillI2 ..) ?_))))
  have hy3:=hy2.alloc hy2.size (.cells #[Vi (cmpI p c),Vi (cmpI q d)] 3)
  refine And.intro (.inr hy3) ?_
  have hs : Sl _ (Vs w3.heap.size 2 2) [cmpI p c,cmpI q d] PInt:=sl_lit w3 [cmpI p c,cmpI q d] 2 rfl (by
   intro x hx
   simp only [List.mem_cons,List.not_mem_nil,or_false] at hx
   rcases hx with rfl | rfl <;> exact cmpI_in _ _) (by simp)
  refine y_one 11 (by kernel_rfl) (y_op 11 tab_ok rfl rfl rfl rfl ?_)
  refine And.intro en_Or ((or_any _ _ _ hs).mono ?_)
  rintro e w4 ⟨rfl,h4⟩
  refine ⟨_,rfl,?_⟩
  have hy4:=below_trans hy3 h4
  refine And.intro (.inr hy4) ?_
  refine yT 12 tab_ok rfl (by kernel_rfl) hy4 rfl (rfl) ?_
  exact y_end (by kernel_rfl) ⟨rfl,trivial⟩ (undrew hy4)
 refine wp_ret ?_
 repeat (first | refine then_ret ?_ | refine block_ret ?_)
 exact ret1 hS rfl rfl ⟨rfl,below_trans hB hw⟩
theorem anowhere_any (w : World) : Calls Tryz.prog 21 #[] w fun e w'=>e = .returned (.agg #[Vi (-1),Vi (-1)]) ∧ RowKit.Below w.heap.size w w':=by
 refine Sym.enter (args:=[]) Tryz.func21 rfl rfl rfl (fun a0 hS0=>?_)
 obtain ⟨N,hN⟩ : ∃ N,N = w.heap.size:=⟨_,rfl⟩
 refine wp_seq (seq_cut [(0,Vp N)] (· = w.alloc (.cells #[Vi 0,Vi 0] 48)) tab_ok hS0 ?_ (fun a wc hS hw=>?_))
 ·subst hN
  refine zB rfl ?_
  repeat first|refine zP rfl ?_|refine zK rfl ?_
  exact o_nil ⟨⟨rfl,trivial⟩,rfl⟩
 refine wp_seq (seq_cut [(0,Vp N)] (· = newP w (-1) (-1)) tab_ok hS ?_ (fun a w1 hS hw1=>?_))
 ·subst hw hN
  repeat first|refine zP rfl ?_|refine zK rfl ?_
  refine o_step0 rfl rfl (And.intro rfl (And.intro rfl (And.intro (own_cells2 (OwnB.new w [Vi 0,Vi 0] 48)) ?_)))
  exact o_nil ⟨⟨rfl,trivial⟩,rfl⟩
 have hp:=newP_box w (-1) (-1)
 rw [← hw1,← hN] at hp
 refine wp_ret ?_
 repeat (first | refine then_ret ?_ | refine block_ret ?_)
 exact retc1 tab_ok hS rfl rfl rfl rfl (o:=0) (vs:=[Vi (-1),Vi (-1)]) ⟨hp.c0,hp.c1,trivial⟩ rfl ⟨rfl,by rw [hw1]; exact newP_below w _ _⟩
theorem starts_boxes {w wc : World} {L1 s1 L2 s2 : Int} {vn1 ve1 vn2 ve2 : Value} (hw : wc = ((w.alloc (.cells #[Vi L1,Vi s1,vn1,ve1] 25)).alloc (.cells #[Vi L2,Vi s2,vn2,ve2] 25)).alloc (.cells #[Vi 0,Vi 0] 48)) : RowKit.Below w.heap.size w wc ∧ Box wc w.heap.size L1 s1 vn1 ve1 ∧ Box wc (w.heap.size + 1) L2 s2 vn2 ve2 ∧ OwnB wc (w.heap.size + 1 + 1) 48 [Vi 0,Vi 0]:=by
 obtain ⟨h1,h2,h3⟩:=box_two (w:=w) (wc:=(w.alloc (.cells #[Vi L1,Vi s1,vn1,ve1] 25)).alloc (.cells #[Vi L2,Vi s2,vn2,ve2] 25)) rfl
 have h4:=below_alloc ((w.alloc (.cells #[Vi L1,Vi s1,vn1,ve1] 25)).alloc (.cells #[Vi L2,Vi s2,vn2,ve2] 25)) (.cells #[Vi 0,Vi 0] 48)
 have h5:=OwnB.new ((w.alloc (.cells #[Vi L1,Vi s1,vn1,ve1] 25)).alloc (.cells #[Vi L2,Vi s2,vn2,ve2] 25)) [Vi 0,Vi 0] 48
 rw [alloc_size,alloc_size] at h5
 rw [hw]
 exact ⟨below_trans h1 h4,h2.keep h4,h3.keep h4,h5⟩
theorem put_pair {w0 w : World} {b : Nat} {T : TypeId} {v0 v1 : Value} (h : OwnB w b T [v0,v1]) (hB : RowKit.Below w0.heap.size w0 w) (hb : w0.heap.size ≤ b) (x y : Value) : OwnB (w.setCells b 0 [x,y]) b T [x,y] ∧ RowKit.Below w0.heap.size w0 (w.setCells b 0 [x,y]):=
 ⟨h.sets rfl,below_of_grown hB (grown_sets b _ 0 _) (fun k hk=>by cases hk; exact hb)⟩
theorem astarts_any (L1 s1 L2 s2 : Int) (vn1 ve1 vn2 ve2 : Value) (w : World) : Calls Tryz.prog 39 #[.agg #[Vi L1,Vi s1,vn1,ve1],.agg #[Vi L2,Vi s2,vn2,ve2]] w fun e w'=>e = .returned (.agg #[Vi s1,Vi s2]) ∧ RowKit.Below w.heap.size w w':=by
 refine Sym.enter (args:=[.agg #[Vi L1,Vi s1,vn1,ve1],.agg #[Vi L2,Vi s2,vn2,ve2]]) Tryz.func39 rfl rfl rfl (fun a0 hS0=>?_)
 obtain ⟨B,hBB⟩ : ∃ B,B = w.heap.size:=⟨_,rfl⟩
 refine wp_seq (seq_cut [(2,Vp B),(3,Vp (B + 1)),(4,Vp (B + 1 + 1))] (· = ((w.alloc (.cells #[Vi L1,Vi s1,vn1,ve1] 25)).alloc (.cells #[Vi L2,Vi s2,vn2,ve2] 25)).alloc (.cells #[Vi 0,Vi 0] 48)) tab_ok hS0 ?_ (fun a wc hS hw=>?_))
 ·subst hBB
  refine zB rfl ?_
  refine zB rfl ?_
  refine zB rfl ?_
  rw [alloc_size,alloc_size]
  repeat first|refine zP rfl ?_|refine zK rfl ?_
  exact o_nil ⟨⟨rfl,rfl,rfl,trivial⟩,rfl⟩
 obtain ⟨hB,hx,hy,ho⟩:=starts_boxes hw
 rw [← hBB] at hx hy ho
 clear hw
 obtain ⟨h1,h2⟩:=put_pair ho hB (by omega) (Vi s1) (Vi s2)
 refine wp_seq (seq_cut [(4,Vp (B + 1 + 1))] (· = wc.setCells (B + 1 + 1) 0 [Vi s1,Vi s2]) tab_ok hS ?_ (fun a w1 hS hw1=>?_))
 ·repeat first|refine zP rfl ?_|refine zK rfl ?_
  refine zL rfl (hx.c1) ?_
  repeat first|refine zP rfl ?_|refine zK rfl ?_
  refine zL rfl (hy.c1) ?_
  repeat first|refine zP rfl ?_|refine zK rfl ?_
  refine o_step0 rfl rfl (And.intro rfl (And.intro rfl (And.intro (own_cells2 ho) ?_)))
  exact o_nil ⟨⟨rfl,trivial⟩,rfl⟩
 rw [← hw1] at h1 h2
 refine wp_ret ?_
 repeat (first | refine then_ret ?_ | refine block_ret ?_)
 exact retc1 tab_ok hS rfl rfl rfl rfl (o:=0) (vs:=[Vi s1,Vi s2]) ⟨h1.cell (i:=0) rfl,h1.cell (i:=1) rfl,trivial⟩ rfl ⟨rfl,h2⟩
theorem both_boxes {w wc : World} {L1 s1 L2 s2 p q : Int} {vn1 ve1 vn2 ve2 : Value} (hw : wc = (((w.alloc (.cells #[Vi L1,Vi s1,vn1,ve1] 25)).alloc (.cells #[Vi L2,Vi s2,vn2,ve2] 25)).alloc (.cells #[Vi p,Vi q] 48)).alloc (.cells #[Vi 0,Vi 0] 48)) : RowKit.Below w.heap.size w wc ∧ Box wc w.heap.size L1 s1 vn1 ve1 ∧ Box wc (w.heap.size + 1) L2 s2 vn2 ve2 ∧ BoxP wc (w.heap.size + 1 + 1) p q ∧ OwnB wc (w.heap.size + 1 + 1 + 1) 48 [Vi 0,Vi 0]:=by
 obtain ⟨h1,h2,h3⟩:=box_two (w:=w) (wc:=(w.alloc (.cells #[Vi L1,Vi s1,vn1,ve1] 25)).alloc (.cells #[Vi L2,Vi s2,vn2,ve2] 25)) rfl
 have h4:=below_alloc ((w.alloc (.cells #[Vi L1,Vi s1,vn1,ve1] 25)).alloc (.cells #[Vi L2,Vi s2,vn2,ve2] 25)) (.cells #[Vi p,Vi q] 48)
 have h5:=below_alloc (((w.alloc (.cells #[Vi L1,Vi s1,vn1,ve1] 25)).alloc (.cells #[Vi L2,Vi s2,vn2,ve2] 25)).alloc (.cells #[Vi p,Vi q] 48)) (.cells #[Vi 0,Vi 0] 48)
 have h6:=BoxP.new ((w.alloc (.cells #[Vi L1,Vi s1,vn1,ve1] 25)).alloc (.cells #[Vi L2,Vi s2,vn2,ve2] 25)) p q 48
 have h7:=OwnB.new (((w.alloc (.cells #[Vi L1,Vi s1,vn1,ve1] 25)).alloc (.cells #[Vi L2,Vi s2,vn2,ve2] 25)).alloc (.cells #[Vi p,Vi q] 48)) [Vi 0,Vi 0] 48
 rw [alloc_size,alloc_size] at h6
 rw [alloc_size,alloc_size,alloc_size] at h7
 rw [hw]
 have h8:=h6.keep (by rw [alloc_size,alloc_size] at *; exact h5)
 exact ⟨below_trans (below_trans h1 h4) h5,(h2.keep h4).keep h5,(h3.keep h4).keep h5,h8,h7⟩
set_option maxHeartbeats 2000000 in
theorem afollowBoth_any (L1 s1 L2 s2 p q l : Int) (vn1 ve1 vn2 ve2 : Value) (n1 n2 : List (List Int)) (w : World) (hn1 : Sl w vn1 n1 PRow) (hn2 : Sl w vn2 n2 PRow) (h1 : p < n1.length) (h2 : q < n2.length) (h3 : 0 ≤ p → 0 ≤ l ∧ l < (n1.getD p.toNat []).length) (h4 : 0 ≤ q → 0 ≤ l ∧ l < (n2.getD q.toNat []).length) :
  Calls Tryz.prog 37 #[.agg #[Vi L1,Vi s1,vn1,ve1],.agg #[Vi L2,Vi s2,vn2,ve2],.agg #[Vi p,Vi q],Vi l] w fun e w'=>e = .returned (.agg #[Vi (stepM n1 p l),Vi (stepM n2 q l)]) ∧ RowKit.Below w.heap.size w w':=by
 refine Sym.enter (args:=[.agg #[Vi L1,Vi s1,vn1,ve1],.agg #[Vi L2,Vi s2,vn2,ve2],.agg #[Vi p,Vi q],Vi l]) Tryz.func37 rfl rfl rfl (fun a0 hS0=>?_)
 obtain ⟨B,hBB⟩ : ∃ B,B = w.heap.size:=⟨_,rfl⟩
 refine wp_seq (seq_cut [(3,Vi l),(4,Vp B),(5,Vp (B + 1)),(6,Vp (B + 1 + 1)),(8,Vp (B + 1 + 1 + 1))] (· = (((w.alloc (.cells #[Vi L1,Vi s1,vn1,ve1] 25)).alloc (.cells #[Vi L2,Vi s2,vn2,ve2] 25)).alloc (.cells #[Vi p,Vi q] 48)).alloc (.cells #[Vi 0,Vi 0] 48)) tab_ok hS0 ?_ (fun a wc hS hw=>?_))
 ·subst hBB
  refine zB rfl ?_
  refine zB rfl ?_
  refine zB rfl ?_
  repeat first|refine zP rfl ?_|refine zK rfl ?_
  refine zB rfl ?_
  rw [alloc_size,alloc_size,alloc_size]
  repeat first|refine zP rfl ?_|refine zK rfl ?_
  exact o_nil ⟨⟨rfl,rfl,rfl,rfl,rfl,trivial⟩,rfl⟩
 obtain ⟨hB,hx,hy,hp,ho⟩:=both_boxes hw
 rw [← hBB] at hx hy hp ho
 clear hw
 replace hn1:=hn1.keep hB (fun _ _ h=>PRow.keep hB h)
 replace hn2:=hn2.keep hB (fun _ _ h=>PRow.keep hB h)
 refine wp_seq (any_cut 11 [(8,Vp (B + 1 + 1 + 1))] (fun w'=>OwnB w' (B + 1 + 1 + 1) 48 [Vi (stepM n1 p l),Vi (stepM n2 q l)] ∧ RowKit.Below w.heap.size w w') mixed hS ?_ (fun a w2 hS hw=>?_))
 ·have hy0 : RowKit.Below wc.drew.heap.size wc.drew wc.drew:=RowKit.Below.refl _ _
  refine yT 0 tab_ok rfl (by kernel_rfl) hy0 rfl (Exists.intro ([Vi L1,Vi s1,vn1,ve1]) (And.intro rfl (And.intro (hx.cells) rfl))) ?_
  refine yT 1 tab_ok rfl (by kernel_rfl) hy0 rfl (rfl) ?_
  refine yL 2 tab_ok rfl (by kernel_rfl) hy0 rfl rfl (hp.c0) ?_
  refine yT 3 tab_ok rfl (by kernel_rfl) hy0 rfl (rfl) ?_
  refine yT 5 tab_ok rfl (by kernel_rfl) hy0 rfl (Exists.intro ([Vi L2,Vi s2,vn2,ve2]) (And.intro rfl (And.intro (hy.cells) rfl))) ?_
  refine yT 6 tab_ok rfl (by kernel_rfl) hy0 rfl (rfl) ?_
  refine yL 7 tab_ok rfl (by kernel_rfl) hy0 rfl rfl (hp.c1) ?_
  refine yT 8 tab_ok rfl (by kernel_rfl) hy0 rfl (rfl) ?_
  refine y_one 4 (by kernel_rfl) (y_op 4 tab_ok rfl rfl rfl rfl ?_)
  have hd : RowKit.Below wc.heap.size wc wc.drew:=(RowKit.Below.refl _ _).drew
  refine And.intro en_afollow ((afollow_any L1 s1 vn1 ve1 n1 p l wc.drew (hn1.keep hd (fun _ _ h=>PRow.keep hd h)) h1 h3).mono ?_)
  rintro e w2 ⟨rfl,k1⟩
  refine ⟨_,rfl,?_⟩
  refine And.intro (.inr k1) ?_
  refine y_one 9 (by kernel_rfl) (y_op 9 tab_ok rfl rfl rfl rfl ?_)
  have k1' : RowKit.Below wc.heap.size wc w2:=undrew k1
  refine And.intro en_afollow ((afollow_any L2 s2 vn2 ve2 n2 q l _ (hn2.keep k1' (fun _ _ h=>PRow.keep k1' h)) h2 h4).mono ?_)
  rintro e w3 ⟨rfl,k2⟩
  refine ⟨_,rfl,?_⟩
  have hy2:=below_trans k1 k2
  refine And.intro (.inr hy2) ?_
  have ho2:=ho.keep (undrew hy2) ho.lt
  obtain ⟨h5,h6⟩:=put_pair ho2 (below_trans hB (undrew hy2)) (by omega) (Vi (stepM n1 p l)) (Vi (stepM n2 q l))
  refine yT 10 tab_ok rfl (by kernel_rfl) hy2 rfl (rfl) ?_
  refine y_one 11 (by kernel_rfl) (y_op0 11 tab_ok rfl rfl rfl ?_)
  refine And.intro rfl (And.intro rfl (And.intro (own_cells2 ho2) (And.intro (.inl (by kernel_rfl)) ?_)))
  exact y_end (by kernel_rfl) ⟨rfl,trivial⟩ ⟨h5,h6⟩
 obtain ⟨h5,h6⟩:=hw
 refine wp_ret ?_
 repeat (first | refine then_ret ?_ | refine block_ret ?_)
 exact retc1 tab_ok hS rfl rfl rfl rfl (o:=0) (vs:=[Vi (stepM n1 p l),Vi (stepM n2 q l)]) ⟨h5.cell (i:=0) rfl,h5.cell (i:=1) rfl,trivial⟩ rfl ⟨rfl,h6⟩
end Go.Proofs.YthcoppfiahnpoaaGreat
namespace Go.Proofs.YthcoppfiahnpoaaGreat
open Go Sym
theorem en_ashows : enters Tryz.prog 45 = true:=by kernel_rfl
theorem en_ashows1 : enters Tryz.prog 72 = true:=by kernel_rfl
theorem SlP.at {w : World} {g : Option Addr} {c : Nat} {l : List (Int × Int)} (h : SlP w (.slice g l.length c) l) {k : Nat} (hk : k < l.length) : ∃ b o,g = some ⟨b,o,none⟩ ∧ cellsAt w.cell? b (o + k * 2) [Vi l[k].1,Vi l[k].2]:=by
 obtain ⟨a,b,o,cap,e,h1,h2,h3,h4⟩:=h
 simp only [Value.slice.injEq] at e
 obtain ⟨rfl,-,rfl⟩:=e
 exact ⟨b,o,h1 (by omega),(h4 k hk).1⟩
theorem x_cells2 {base : Nat} {w : World} {l : List Ow} (h : Rows base w l) {i T b : Nat} {u v : Value} (hi : l[i]? = some (oX T b 2 [u,v])) : ∀ j,j < 2 → (w.cell? ⟨b,0 + j,none⟩).isSome = true ∧ w.frozen? ⟨b,0 + j,none⟩ = false:=fun j hj=>by
 rw [Nat.zero_add]
 refine ⟨?_,h.free hi j⟩
 match j,hj with
 | 0,_=>rw [h.xcell hi (j:=0) rfl]; rfl
 | 1,_=>rw [h.xcell hi (j:=1) rfl]; rfl
theorem Hold.xput2 {base : Nat} {w0 w : World} {l : List Ow} (h : Hold base w0 w l) {i T b : Nat} {u v : Value} (hi : l[i]? = some (oX T b 2 [u,v])) (x y : Value) : Hold base w0 (w.setCells b 0 [x,y]) (l.set i (oX T b 2 [x,y])):=by
 have h1:=h.xstore hi 0 x
 have h2:=h1.xstore (i:=i) (T:=T) (b:=b) (k:=2) (vs:=[u,v].set 0 x) (by rw [List.getElem?_set_self (List.getElem?_eq_some_iff.1 hi).1]) 1 y
 rw [List.set_set] at h2
 exact h2
def lastP (l : List (Int × Int)) (k : Nat) : Int × Int:=if k = 0 then (-1,-1) else l.getD (k - 1) (0,0)
theorem rel_step {m1 m2 : Int} {l : List (Int × Int)} {k : Nat} (hk : k < l.length) (hgo : ∀ j,j < k → badM m1 m2 l j = false) :
  (decide (l[k].1 < -1) || (decide (m1 ≤ l[k].1) || (decide (l[k].2 < -1) || (decide (m2 ≤ l[k].2) || decide (0 ≤ ordP (lastP l k).1 (lastP l k).2 l[k].1 l[k].2))))) = badM m1 m2 l k:=by
 rw [badM,badP,show l.getD k (0,0) = l[k] by simp [List.getD_eq_getElem?_getD,hk]]
 unfold beforeM
 obtain ⟨p,q⟩:=l[k]
 cases k with
 | zero=>
   rw [Bool.eq_iff_iff]
   simp only [lastP,if_pos,Bool.or_eq_true,Bool.and_eq_true,decide_eq_true_eq,ordP_ge]
   omega
 | succ k=>
   have h1:=bad_range (k:=k) (by omega) (hgo k (by omega))
   rw [lastP,if_neg (by omega),Nat.add_sub_cancel,show l.getD k (0,0) = l[k] by simp [List.getD_eq_getElem?_getD,show k < l.length by omega]]
   obtain ⟨x,hx⟩ : ∃ x,x = l[k]:=⟨_,rfl⟩
   rw [← hx] at h1 ⊢
   clear hx
   obtain ⟨c,d⟩:=x
   rw [Bool.eq_iff_iff]
   simp only [Bool.or_eq_true,Bool.and_eq_true,decide_eq_true_eq,ordP_ge,Bool.not_eq_true',Bool.or_eq_false_iff,Bool.and_eq_false_iff,decide_eq_false_iff_not] at *
   omega
set_option maxHeartbeats 1000000 in
theorem aisRelation_any (L1 s1 L2 s2 : Int) (vn1 ve1 vn2 ve2 v : Value) (n1 n2 : List (List Int)) (f1 f2 : List Bool) (l : List (Int × Int)) (w : World) (hm : Ma w L1 s1 n1 f1 vn1 ve1) (hm2 : Ma w L2 s2 n2 f2 vn2 ve2) (hl : SlP w v l) :
  Calls Tryz.prog 44 #[.agg #[Vi L1,Vi s1,vn1,ve1],.agg #[Vi L2,Vi s2,vn2,ve2],v] w fun e w'=>e = .returned (.bool (!(List.range l.length).any (badM n1.length n2.length l))) ∧ RowKit.Below w.heap.size w w':=by
 refine Sym.enter (args:=[.agg #[Vi L1,Vi s1,vn1,ve1],.agg #[Vi L2,Vi s2,vn2,ve2],v]) Tryz.func44 rfl rfl rfl (fun a0 hS0=>?_)
 obtain ⟨B,hBB⟩ : ∃ B,B = w.heap.size:=⟨_,rfl⟩
 refine wp_seq (seq_cut [(3,Vp B),(4,Vp (B + 1)),(2,v)] (· = (w.alloc (.cells #[Vi L1,Vi s1,vn1,ve1] 25)).alloc (.cells #[Vi L2,Vi s2,vn2,ve2] 25)) tab_ok hS0 ?_ (fun a wc hS hw=>?_))
 ·subst hBB
  refine zB rfl ?_
  refine zB rfl ?_
  rw [alloc_size]
  repeat first|refine zP rfl ?_|refine zK rfl ?_
  exact o_nil ⟨⟨rfl,rfl,rfl,trivial⟩,rfl⟩
 obtain ⟨hB,hx,hz⟩:=box_two hw
 rw [← hBB] at hx hz
 clear hw
 replace hm:=hm.keep hB
 replace hm2:=hm2.keep hB
 replace hl:=hl.keep hB
 have K:=fun w' (h : RowKit.Below wc.heap.size wc w')=>And.intro (hx.keep h) (And.intro (hz.keep h) (And.intro (hm.keep h) (And.intro (hm2.keep h) (hl.keep h))))
 have fin' : ∀ {w'},RowKit.Below wc.heap.size wc w' → RowKit.Below w.heap.size w w':=fun h=>below_trans hB h
 obtain ⟨al,bl,ol,cl,hvl,h1,h2,h3,-⟩:=id hl
 subst hvl
 refine wp_seq (seq_cutx (α:=Nat) (fun BL=>[(3,Vp B),(4,Vp (B + 1)),(2,.slice al l.length cl),(7,Vp BL)]) (fun BL w'=>Hold wc.heap.size wc w' [oX 48 BL 2 [Vi (-1),Vi (-1)]]) tab_ok hS ?_ (fun BL a w1 hS h=>?_))
 ·repeat first|refine zP rfl ?_|refine zK rfl ?_
  refine zF rfl (en_anowhere) (anowhere_any wc) ?_
  rintro e w2 ⟨rfl,k1⟩
  refine ⟨_,rfl,?_⟩
  repeat first|refine zP rfl ?_|refine zK rfl ?_
  refine zB rfl ?_
  refine o_step0 rfl rfl (And.intro rfl (And.intro rfl (And.intro (own_cells2 (OwnB.new w2 [Vi 0,Vi 0] 48)) ?_)))
  repeat first|refine zP rfl ?_|refine zK rfl ?_
  exact o_nil ⟨_,⟨rfl,rfl,rfl,rfl,trivial⟩,(((Hold.start wc).below k1).var (T:=48) (k:=2) [Vi 0,Vi 0] [Vi (-1),Vi (-1)] rfl rfl).1⟩
 refine wp_seq (wp_seq (seq_cut [(3,Vp B),(4,Vp (B + 1)),(7,Vp BL),(11,.slice al l.length cl),(12,Vi l.length),(13,Vi (0 : Nat))] (· = w1) tab_ok hS ?_ (fun a w' hS hw=>?_)))
 ·repeat first|refine zP rfl ?_|refine zK rfl ?_
  exact o_nil ⟨⟨rfl,rfl,rfl,rfl,rfl,rfl,trivial⟩,rfl⟩
 subst hw
 refine wp_block (loop0 hS (fun γ E w'=>∃ k : Nat,k ≤ l.length ∧ γ = l.length - k ∧ E = [(3,Vp B),(4,Vp (B + 1)),(7,Vp BL),(11,.slice al l.length cl),(12,Vi l.length),(13,Vi k)] ∧ (∀ j,j < k → badM n1.length n2.length l j = false) ∧ Hold wc.heap.size wc w' [oX 48 BL 2 [Vi (lastP l k).1,Vi (lastP l k).2]]) l.length ⟨0,by omega,by omega,rfl,fun j hj=>by omega,h⟩ ?_)
 clear h hS
 rintro γ E w2 a ⟨k,hk,rfl,rfl,hgo,h⟩ hS
 refine wp_seq (seq_cut [(3,Vp B),(4,Vp (B + 1)),(7,Vp BL),(11,.slice al l.length cl),(12,Vi l.length),(13,Vi k),(14,.bool (decide (k < l.length)))] (· = w2) tab_ok hS ?_ (fun a w3 hS hw=>?_))
 ·repeat first|refine zP rfl ?_|refine zK rfl ?_
  refine zC rfl (lt_nat _ _) ?_
  repeat first|refine zP rfl ?_|refine zK rfl ?_
  exact o_nil ⟨⟨rfl,rfl,rfl,rfl,rfl,rfl,rfl,trivial⟩,rfl⟩
 subst hw
 refine wp_seq (cond hS rfl (fun hT=>wp_skip ?_) (fun hF=>?_))
 rotate_left
 ·have hkk : k = l.length:=by have:=of_decide_eq_false hF; omega
  refine wp_exit ?_
  repeat (first | refine then_exit ?_ | refine block_exit ?_ | refine block_other rfl ?_)
  refine wp_seq (seq_cut [(6,.bool true)] (· = w3) tab_ok hS ?_ (fun a w4 hS hw=>?_))
  ·repeat first|refine zP rfl ?_|refine zK rfl ?_
   exact o_nil ⟨⟨rfl,trivial⟩,rfl⟩
  subst hw
  have hno : (List.range l.length).any (badM n1.length n2.length l) = false:=Bool.eq_false_iff.2 fun hh=>by
   obtain ⟨j,hj,hb⟩:=List.any_eq_true.1 hh
   rw [hgo j (by have:=List.mem_range.1 hj; omega)] at hb
   cases hb
  refine wp_ret ?_
  repeat (first | refine then_ret ?_ | refine block_ret ?_)
  exact ret1 hS rfl rfl ⟨by rw [hno]; rfl,fin' h.b⟩
 have hkk : k < l.length:=of_decide_eq_true hT
 have hst:=rel_step hkk hgo
 refine wp_seq (wp_block (wp_seq (seq_cutx (α:=Nat) (fun P=>[(3,Vp B),(4,Vp (B + 1)),(7,Vp BL),(11,.slice al l.length cl),(12,Vi l.length),(13,Vi k),(9,Vp P)]) (fun P w'=>BoxP w' P l[k].1 l[k].2 ∧ Hold wc.heap.size wc w' [oX 48 BL 2 [Vi (lastP l k).1,Vi (lastP l k).2]]) tab_ok hS ?_ (fun P a w4 hS h=>?_))))
 ·obtain ⟨hx,hz,hm,hm2,hl⟩:=K _ h.b
  obtain ⟨b,o,rfl,hcell⟩:=hl.at hkk
  repeat first|refine zP rfl ?_|refine zK rfl ?_
  refine zI rfl (rfl) (hkk) ?_
  refine zA ([Vi l[k].1,Vi l[k].2]) rfl rfl (hcell) ?_
  refine zB rfl ?_
  refine o_step0 rfl rfl (And.intro rfl (And.intro rfl (And.intro (own_cells2 (OwnB.new w3 [Vi 0,Vi 0] 48)) ?_)))
  exact o_nil ⟨_,⟨rfl,rfl,rfl,rfl,rfl,rfl,rfl,trivial⟩,newP_box w3 l[k].1 l[k].2,h.below (newP_below w3 l[k].1 l[k].2)⟩
 obtain ⟨hp,h⟩:=h
 obtain ⟨p,hpe⟩ : ∃ p,p = l[k].1:=⟨_,rfl⟩
 obtain ⟨q,hqe⟩ : ∃ q,q = l[k].2:=⟨_,rfl⟩
 rw [← hpe,← hqe] at hp hst
 obtain ⟨c,hce⟩ : ∃ c,c = (lastP l k).1:=⟨_,rfl⟩
 obtain ⟨d,hde⟩ : ∃ d,d = (lastP l k).2:=⟨_,rfl⟩
 rw [← hce,← hde] at h hst
 refine wp_seq (wp_seq (seq_cut [(3,Vp B),(4,Vp (B + 1)),(7,Vp BL),(11,.slice al l.length cl),(12,Vi l.length),(13,Vi k),(9,Vp P),(46,.bool (badM n1.length n2.length l k))] (fun w'=>RowKit.Below w4.heap.size w4 w') tab_ok hS ?_ (fun a w5 hS hw=>?_)))
 ·obtain ⟨hx,hz,hm,hm2,hl⟩:=K _ h.b
  obtain ⟨an,bn,on,cn,hvn,-⟩:=hm.n
  obtain ⟨an2,bn2,on2,cn2,hvn2,-⟩:=hm2.n
  have hr:=RowKit.Below.refl w4.heap.size w4
  subst hvn hvn2
  rw [← hst]
  repeat first|refine zP rfl ?_|refine zK rfl ?_
  refine zL rfl (hp.c0) ?_
  cases h1 : decide (p < -1)
  case true=>
   refine zC rfl (h1) ?_
   repeat first|refine zP rfl ?_|refine zK rfl ?_
   exact o_nil ⟨⟨rfl,rfl,rfl,rfl,rfl,rfl,rfl,rfl,trivial⟩,hr⟩
  refine zC rfl (h1) ?_
  repeat first|refine zP rfl ?_|refine zK rfl ?_
  refine zL rfl (hp.c0) ?_
  repeat first|refine zP rfl ?_|refine zK rfl ?_
  refine zL rfl (hx.c2) ?_
  repeat first|refine zP rfl ?_|refine zK rfl ?_
  cases h2 : decide ((n1.length : Int) ≤ p)
  case true=>
   refine zC rfl (h2) ?_
   repeat first|refine zP rfl ?_|refine zK rfl ?_
   exact o_nil ⟨⟨rfl,rfl,rfl,rfl,rfl,rfl,rfl,rfl,trivial⟩,hr⟩
  refine zC rfl (h2) ?_
  repeat first|refine zP rfl ?_|refine zK rfl ?_
  refine zL rfl (hp.c1) ?_
  cases h3 : decide (q < -1)
  case true=>
   refine zC rfl (h3) ?_
   repeat first|refine zP rfl ?_|refine zK rfl ?_
   exact o_nil ⟨⟨rfl,rfl,rfl,rfl,rfl,rfl,rfl,rfl,trivial⟩,hr⟩
  refine zC rfl (h3) ?_
  repeat first|refine zP rfl ?_|refine zK rfl ?_
  refine zL rfl (hp.c1) ?_
  repeat first|refine zP rfl ?_|refine zK rfl ?_
  refine zL rfl (hz.c2) ?_
  repeat first|refine zP rfl ?_|refine zK rfl ?_
  cases h4 : decide ((n2.length : Int) ≤ q)
  case true=>
   refine zC rfl (h4) ?_
   repeat first|refine zP rfl ?_|refine zK rfl ?_
   exact o_nil ⟨⟨rfl,rfl,rfl,rfl,rfl,rfl,rfl,rfl,trivial⟩,hr⟩
  refine zC rfl (h4) ?_
  repeat first|refine zP rfl ?_|refine zK rfl ?_
  refine zA ([Vi c,Vi d]) rfl rfl (⟨h.r.xcell (i:=0) rfl (j:=0) rfl,h.r.xcell (i:=0) rfl (j:=1) rfl,trivial⟩) ?_
  refine zA ([Vi p,Vi q]) rfl rfl (hp.cells) ?_
  refine zF rfl (en_aorder) (aorder_any c d p q w4) ?_
  rintro e w5 ⟨rfl,k1⟩
  refine ⟨_,rfl,?_⟩
  refine zC rfl (rfl) ?_
  repeat first|refine zP rfl ?_|refine zK rfl ?_
  exact o_nil ⟨⟨rfl,rfl,rfl,rfl,rfl,rfl,rfl,rfl,trivial⟩,k1⟩
 replace h:=h.below hw
 replace hp:=hp.keep hw
 clear hw
 refine cond hS rfl (fun hT=>?_) (fun hF=>wp_skip ?_)
 ·refine wp_seq (seq_cut [(6,.bool false)] (· = w5) tab_ok hS ?_ (fun a w6 hS hw=>?_))
  ·repeat first|refine zP rfl ?_|refine zK rfl ?_
   exact o_nil ⟨⟨rfl,trivial⟩,rfl⟩
  subst hw
  have hyes : (List.range l.length).any (badM n1.length n2.length l) = true:=List.any_eq_true.2 ⟨k,List.mem_range.2 hkk,hT⟩
  refine wp_ret ?_
  repeat (first | refine then_ret ?_ | refine block_ret ?_)
  exact ret1 hS rfl rfl ⟨by rw [hyes]; rfl,fin' h.b⟩
 refine seq_cut [(3,Vp B),(4,Vp (B + 1)),(7,Vp BL),(11,.slice al l.length cl),(12,Vi l.length),(13,Vi k)] (fun w'=>Hold wc.heap.size wc w' [oX 48 BL 2 [Vi p,Vi q]]) tab_ok hS ?_ (fun a w6 hS h=>?_)
 ·refine zA ([Vi p,Vi q]) rfl rfl (hp.cells) ?_
  repeat first|refine zP rfl ?_|refine zK rfl ?_
  refine o_step0 rfl rfl (And.intro rfl (And.intro rfl (And.intro (x_cells2 h.r (i:=0) rfl) ?_)))
  exact o_nil ⟨⟨rfl,rfl,rfl,rfl,rfl,rfl,trivial⟩,h.xput2 (i:=0) rfl _ _⟩
 refine block_normal ?_
 refine seq_cut [(3,Vp B),(4,Vp (B + 1)),(7,Vp BL),(11,.slice al l.length cl),(12,Vi l.length),(13,Vi (k + 1 : Nat))] (· = w6) tab_ok hS ?_ (fun a w7 hS hw=>?_)
 ·repeat first|refine zP rfl ?_|refine zK rfl ?_
  refine zN rfl (i64_add k 1 (by omega)) ?_
  repeat first|refine zP rfl ?_|refine zK rfl ?_
  exact o_nil ⟨⟨rfl,rfl,rfl,rfl,rfl,rfl,trivial⟩,rfl⟩
 subst hw
 have hlast : lastP l (k + 1) = (p,q):=by
  rw [lastP,if_neg (by omega),Nat.add_sub_cancel,show l.getD k (0,0) = l[k] by simp [List.getD_eq_getElem?_getD,hkk],hpe,hqe]
 refine ⟨l.length - (k + 1),_,by omega,⟨k + 1,by omega,rfl,rfl,fun j hj=>?_,by rw [hlast]; exact h⟩,hS⟩
 rcases Nat.lt_or_ge j k with hlt2 | hge2
 ·exact hgo j hlt2
 ·obtain rfl : j = k:=by omega
  exact hF
end Go.Proofs.YthcoppfiahnpoaaGreat
namespace Go.Proofs.YthcoppfiahnpoaaGreat
open Go Sym
def plc (W : Nat) (p q : Int) : Nat:=(p + 1).toNat * W + (q + 1).toNat
theorem plc_inj {W : Nat} {p q p' q' : Int} (h1 : -1 ≤ p) (h2 : -1 ≤ q) (h3 : -1 ≤ p') (h4 : -1 ≤ q') (h5 : q + 1 < W) (h6 : q' + 1 < W) (h : plc W p q = plc W p' q') : p = p' ∧ q = q':=by
 unfold plc at h
 have e1 : ∀ a b : Nat,b < W → (a * W + b) % W = b:=fun a b hb=>by rw [Nat.add_comm,Nat.add_mul_mod_self_right,Nat.mod_eq_of_lt hb]
 have e2 : ∀ a b : Nat,b < W → (a * W + b) / W = a:=fun a b hb=>by
  rw [Nat.mul_comm,Nat.mul_add_div (by omega),Nat.div_eq_of_lt hb,Nat.add_zero]
 have k1:=e1 (p + 1).toNat (q + 1).toNat (by omega)
 have k2:=e1 (p' + 1).toNat (q' + 1).toNat (by omega)
 have k3:=e2 (p + 1).toNat (q + 1).toNat (by omega)
 have k4:=e2 (p' + 1).toNat (q' + 1).toNat (by omega)
 rw [h] at k1 k3
 omega
theorem plc_lt {m n : Nat} {p q : Int} (h1 : p < m) (h2 : q < n) : plc (n + 1) p q < (m + 1) * (n + 1):=by
 unfold plc
 exact idx_lt (by omega) (by omega)
def rowB (m : Nat) (f : Nat → Bool) : List Bool:=(List.range m).map f
theorem rowB_len (m : Nat) (f : Nat → Bool) : (rowB m f).length = m:=by simp [rowB]
theorem rowB_get {m j : Nat} (f : Nat → Bool) (h : j < m) : (rowB m f).getD j false = f j:=by simp [rowB,List.getD_eq_getElem?_getD,h]
theorem eq_rowB {xs : List Bool} {m : Nat} {f : Nat → Bool} (h : xs.length = m) (hf : ∀ j,j < m → xs.getD j false = f j) : xs = rowB m f:=by
 refine List.ext_getElem (by rw [h,rowB_len]) fun j h1 h2=>?_
 have:=hf j (by omega)
 simp only [List.getD_eq_getElem?_getD,List.getElem?_eq_getElem h1,Option.getD_some] at this
 rw [this]; simp [rowB]
theorem rowB_set {m i : Nat} {v : Bool} {f g : Nat → Bool} (h : ∀ j,j < m → g j = if i = j then v else f j) : (rowB m f).set i v = rowB m g:=by
 refine eq_rowB (by rw [List.length_set,rowB_len]) fun j hj=>?_
 rw [h j hj]
 simp only [List.getD_eq_getElem?_getD,List.getElem?_set,rowB_len]
 by_cases e : i = j
 ·subst e; simp [hj]
 ·simp [e,rowB,hj]
def tB (W : Nat) (l : List (Int × Int)) (k j : Nat) : Bool:=decide (j = 0) || (l.take k).any fun x=>decide (plc W x.1 x.2 = j)
theorem tB_step {W m : Nat} {l : List (Int × Int)} {k : Nat} (hk : k < l.length) : (rowB m (tB W l k)).set (plc W l[k].1 l[k].2) true = rowB m (tB W l (k + 1)):=rowB_set fun j hj=>by
 unfold tB
 rw [List.take_succ_eq_append_getElem hk,List.any_append]
 by_cases e : plc W l[k].1 l[k].2 = j
 ·rw [if_pos e]; simp [e]
 ·rw [if_neg e]; simp [e]
theorem tB_end {W : Nat} {l : List (Int × Int)} {n1 n2 : Nat} (hW : W = n2 + 1) (hr : ∀ i (h : i < l.length),-1 ≤ l[i].1 ∧ l[i].1 < n1 ∧ -1 ≤ l[i].2 ∧ l[i].2 < n2) {p q : Int} (h1 : -1 ≤ p) (h2 : -1 ≤ q) (h3 : q < n2) : tB W l l.length (plc W p q) = thereM p q l:=by
 subst hW
 rw [Bool.eq_iff_iff,tB,List.take_length,Bool.or_eq_true,decide_eq_true_eq,List.any_eq_true]
 have h0 : plc (n2 + 1) p q = 0 ↔ p < 0 ∧ q < 0:=by
  constructor
  ·intro h
   have : plc (n2 + 1) p q = plc (n2 + 1) (-1) (-1):=by rw [h]; simp [plc]
   obtain ⟨rfl,rfl⟩:=plc_inj h1 h2 (by omega) (by omega) (by omega) (by omega) this
   omega
  ·rintro ⟨k1,k2⟩
   obtain rfl : p = -1:=by omega
   obtain rfl : q = -1:=by omega
   simp [plc]
 rw [h0]
 constructor
 ·rintro (h | ⟨x,hx,he⟩)
  ·exact there_of (.inl h)
  ·obtain ⟨i,hi,rfl⟩:=List.getElem_of_mem hx
   have:=hr i hi
   obtain ⟨e1,e2⟩:=plc_inj (by omega) (by omega) h1 h2 (by omega) (by omega) (of_decide_eq_true he)
   exact there_of (.inr (by rw [← e1,← e2]; exact List.getElem_mem hi))
 ·intro h
  rcases there_iff h with h | h
  ·exact .inl h
  ·exact .inr ⟨_,h,decide_eq_true rfl⟩
section
variable {base : Nat} {w0 w : World} {l : List Ow}
theorem Hold.makeB (h : Hold base w0 w l) {n : Nat} (hn : n ≤ 9223372036854775807) : Hold base w0 (w.alloc (.cells (madeCells #[.bool false] n) 4)) (oB (Vs w.heap.size n n) (rowB n (fun _=>false)) :: l):=by
 have h1:=h.lit (e:=4) (s:=1) (n:=n) (madeCells #[.bool false] n) (by simp [madeCells]) hn
 rw [toList_madeCells_one] at h1
 have e : rowB n (fun _=>false) = List.replicate n false:=(eq_rowB (by simp) (fun j hj=>by simp [List.getD_eq_getElem?_getD,List.getElem?_replicate,hj])).symm
 rw [e]
 simpa [oB,bools] using h1
end
theorem place_any_ (p q : Int) (W bw : Nat) (w : World) (hw : w.cell? ⟨bw,0,none⟩ = some (Vi W)) (hp : -1 ≤ p) (hp2 : p ≤ 5000) (hq : -1 ≤ q) (hq2 : q ≤ 5000) (hW : W ≤ 5000) :
  Calls Tryz.prog 72 #[.agg #[Vi p,Vi q],Vp bw] w fun e w'=>e = .returned (Vi (plc W p q : Int)) ∧ RowKit.Below w.heap.size w w':=by
 refine Sym.enter (args:=[.agg #[Vi p,Vi q],Vp bw]) Tryz.func72 rfl rfl rfl (fun a0 hS0=>?_)
 obtain ⟨N,hN⟩ : ∃ N,N = w.heap.size:=⟨_,rfl⟩
 refine wp_seq (seq_cut [(1,Vp bw),(2,Vp N)] (· = w.alloc (.cells #[Vi p,Vi q] 48)) tab_ok hS0 ?_ (fun a wc hS hw=>?_))
 ·subst hN
  refine zB rfl ?_
  repeat first|refine zP rfl ?_|refine zK rfl ?_
  exact o_nil ⟨⟨rfl,rfl,trivial⟩,rfl⟩
 have hB : RowKit.Below w.heap.size w wc:=by rw [hw]; exact below_alloc _ _
 have hp0 : BoxP wc N p q:=by rw [hw,hN]; exact BoxP.new _ _ _ _
 replace hw:=keep hB (by assumption)
 have hX : (p + 1).toNat * W ≤ 5001 * 5000:=Nat.mul_le_mul (by omega) hW
 have e1 : IntKind.i64.wrap (p + 1) = (((p + 1).toNat : Nat) : Int):=by
  rw [show p + 1 = (((p + 1).toNat : Nat) : Int) by omega]; exact i64_in _ (by omega)
 have e2:=i64_mul (p + 1).toNat W (by omega)
 have e3 : IntKind.i64.wrap ((((p + 1).toNat * W : Nat) : Int) + q) = (((p + 1).toNat * W : Nat) : Int) + q:=IntWalk.i64_in _ ⟨by omega,by omega⟩
 have e4 : IntKind.i64.wrap ((((p + 1).toNat * W : Nat) : Int) + q + 1) = ((plc W p q : Nat) : Int):=by
  unfold plc
  rw [show (((p + 1).toNat * W : Nat) : Int) + q + 1 = (((p + 1).toNat * W + (q + 1).toNat : Nat) : Int) by omega]
  exact i64_in _ (by omega)
 refine wp_seq (seq_cut [(3,Vi (plc W p q : Int))] (· = wc) tab_ok hS ?_ (fun a w1 hS hw1=>?_))
 ·repeat first|refine zP rfl ?_|refine zK rfl ?_
  refine zL rfl (hp0.c0) ?_
  refine zN rfl (e1) ?_
  refine zL rfl (hw) ?_
  refine zN rfl (e2) ?_
  repeat first|refine zP rfl ?_|refine zK rfl ?_
  refine zL rfl (hp0.c1) ?_
  refine zN rfl (e3) ?_
  refine zN rfl (e4) ?_
  repeat first|refine zP rfl ?_|refine zK rfl ?_
  exact o_nil ⟨⟨rfl,trivial⟩,rfl⟩
 subst hw1
 refine wp_ret ?_
 repeat (first | refine then_ret ?_ | refine block_ret ?_)
 exact ret1 hS rfl rfl ⟨rfl,hB⟩
set_option maxHeartbeats 2000000 in
theorem ashows_any (L1 s1 L2 s2 : Int) (vn1 ve1 vn2 ve2 v : Value) (n1 n2 : List (List Int)) (f1 f2 : List Bool) (l : List (Int × Int)) (w : World) (hm : Ma w L1 s1 n1 f1 vn1 ve1) (hm2 : Ma w L2 s2 n2 f2 vn2 ve2) (hl : SlP w v l)
  (hv1 : validM L1 s1 n1 f1 = 0) (hv2 : validM L2 s2 n2 f2 = 0) (hLL : L1 = L2) (hrng : ∀ i (h : i < l.length),-1 ≤ l[i].1 ∧ l[i].1 < n1.length ∧ -1 ≤ l[i].2 ∧ l[i].2 < n2.length) :
  Calls Tryz.prog 45 #[.agg #[Vi L1,Vi s1,vn1,ve1],.agg #[Vi L2,Vi s2,vn2,ve2],v] w fun e w'=>e = .returned (.bool (thereM s1 s2 l && !(l.any (apartM n1 n2 f1 f2 L1 l)))) ∧ RowKit.Below w.heap.size w w':=by
 refine Sym.enter (args:=[.agg #[Vi L1,Vi s1,vn1,ve1],.agg #[Vi L2,Vi s2,vn2,ve2],v]) Tryz.func45 rfl rfl rfl (fun a0 hS0=>?_)
 obtain ⟨B,hBB⟩ : ∃ B,B = w.heap.size:=⟨_,rfl⟩
 refine wp_seq (seq_cut [(2,v),(3,Vp B),(4,Vp (B + 1))] (· = (w.alloc (.cells #[Vi L1,Vi s1,vn1,ve1] 25)).alloc (.cells #[Vi L2,Vi s2,vn2,ve2] 25)) tab_ok hS0 ?_ (fun a wc hS hw=>?_))
 ·subst hBB
  refine zB rfl ?_
  refine zB rfl ?_
  rw [alloc_size]
  repeat first|refine zP rfl ?_|refine zK rfl ?_
  exact o_nil ⟨⟨rfl,rfl,rfl,trivial⟩,rfl⟩
 obtain ⟨hB,hx,hz⟩:=box_two hw
 rw [← hBB] at hx hz
 clear hw
 replace hm:=hm.keep hB
 replace hm2:=hm2.keep hB
 replace hl:=hl.keep hB
 have K:=fun w' (h : RowKit.Below wc.heap.size wc w')=>And.intro (hx.keep h) (And.intro (hz.keep h) (And.intro (hm.keep h) (And.intro (hm2.keep h) (hl.keep h))))
 have fin' : ∀ {w'},RowKit.Below wc.heap.size wc w' → RowKit.Below w.heap.size w w':=fun h=>below_trans hB h
 obtain ⟨al,bl,ol,cl,hvl,-,h2,h3,-⟩:=id hl
 subst hvl
 obtain ⟨hs1,hL1,hn1⟩:=shape_of_valid hv1
 obtain ⟨hs2,hL2,hn2⟩:=shape_of_valid hv2
 subst hLL
 obtain ⟨Ln,rfl⟩ : ∃ n : Nat,L1 = n:=⟨L1.toNat,by have:=hs1.L0; omega⟩
 obtain ⟨W,hW⟩ : ∃ W,W = n2.length + 1:=⟨_,rfl⟩
 obtain ⟨m,hmm⟩ : ∃ m,m = (n1.length + 1) * W:=⟨_,rfl⟩
 have hmle : m ≤ 4001 * 4001:=by rw [hmm]; exact Nat.mul_le_mul (by omega) (by omega)
 have plt : ∀ {p q : Int},p < n1.length → q < n2.length → plc W p q < m:=fun h1 h2=>by
  rw [hmm,hW]; exact plc_lt h1 h2
 refine wp_seq (seq_cutx (α:=Nat) (fun BW=>[(2,.slice al l.length cl),(3,Vp B),(4,Vp (B + 1)),(7,Vp BW)]) (fun BW w'=>Hold wc.heap.size wc w' [oX 3 BW 1 [Vi W]]) tab_ok hS ?_ (fun BW a w1 hS h=>?_))
 ·obtain ⟨an2,bn2,on2,cn2,hvn2,-⟩:=hm2.n
  subst hvn2 hW
  have hb:=(Hold.start wc).box (T:=3) (k:=1) #[Vi 0] rfl
  repeat first|refine zP rfl ?_|refine zK rfl ?_
  refine zL rfl (hz.c2) ?_
  repeat first|refine zP rfl ?_|refine zK rfl ?_
  refine zN rfl (i64_add n2.length 1 (by omega)) ?_
  refine zB rfl ?_
  refine zS rfl rfl (hb.r.xcell (i:=0) rfl (j:=0) rfl) (hb.r.free (i:=0) rfl 0) ?_
  exact o_nil ⟨_,⟨rfl,rfl,rfl,rfl,trivial⟩,hb.xstore (i:=0) rfl 0 _⟩
 refine wp_seq (seq_cut [(2,.slice al l.length cl),(3,Vp B),(4,Vp (B + 1)),(7,Vp BW),(8,.func (.func 72) #[] #[Vp BW])] (· = w1) tab_ok hS ?_ (fun a w2 hS hw=>?_))
 ·repeat first|refine zP rfl ?_|refine zK rfl ?_
  exact o_nil ⟨⟨rfl,rfl,rfl,rfl,rfl,trivial⟩,rfl⟩
 subst hw
 refine wp_seq (seq_cutx (α:=Nat) (fun g=>[(2,.slice al l.length cl),(3,Vp B),(4,Vp (B + 1)),(8,.func (.func 72) #[] #[Vp BW]),(9,(Vs g m m))]) (fun g w'=>Hold wc.heap.size wc w' [oB (Vs g m m) (rowB m (fun _=>false)),oX 3 BW 1 [Vi W]]) tab_ok hS ?_ (fun g a w3 hS h=>?_))
 ·obtain ⟨hx,-,hm,-,-⟩:=K _ h.b
  obtain ⟨an,bn,on,cn,hvn,-⟩:=hm.n
  subst hvn
  have e1:=i64_mul (n1.length + 1) W (by omega)
  rw [← hmm] at e1
  repeat first|refine zP rfl ?_|refine zK rfl ?_
  refine zL rfl (hx.c2) ?_
  repeat first|refine zP rfl ?_|refine zK rfl ?_
  refine zN rfl (i64_add n1.length 1 (by omega)) ?_
  refine zL rfl (h.r.xcell (i:=0) rfl (j:=0) rfl) ?_
  refine zN rfl (e1) ?_
  refine zM (m) rfl rfl rfl rfl rfl ((by show 1 * _ ≤ _; omega)) ((by omega)) ?_
  repeat first|refine zP rfl ?_|refine zK rfl ?_
  exact o_nil ⟨_,⟨rfl,rfl,rfl,rfl,rfl,trivial⟩,h.makeB (n:=m) (by omega)⟩
 have place : ∀ {f : Nat → Bool} {w' : World} (p q : Int),Hold wc.heap.size wc w' [oB (Vs g m m) (rowB m f),oX 3 BW 1 [Vi W]] → -1 ≤ p → p < n1.length → -1 ≤ q → q < n2.length →
   Calls Tryz.prog 72 #[.agg #[Vi p,Vi q],Vp BW] w' fun e w2=>e = .returned (Vi (plc W p q : Int)) ∧ RowKit.Below w'.heap.size w' w2:=fun p q h k1 k2 k3 k4=>
  place_any_ p q W BW _ (h.r.xcell (i:=1) rfl (j:=0) rfl) k1 (by omega) k3 (by omega) (by omega)
 refine wp_seq (seq_cut [(2,.slice al l.length cl),(3,Vp B),(4,Vp (B + 1)),(8,.func (.func 72) #[] #[Vp BW]),(9,(Vs g m m))] (fun w'=>Hold wc.heap.size wc w' [oB (Vs g m m) (rowB m (tB W l 0)),oX 3 BW 1 [Vi W]]) tab_ok hS ?_ (fun a w4 hS h=>?_))
 ·repeat first|refine zP rfl ?_|refine zK rfl ?_
  refine zF rfl (en_anowhere) (anowhere_any w3) ?_
  rintro e w5 ⟨rfl,k1⟩
  refine ⟨_,rfl,?_⟩
  have h:=h.below k1
  repeat first|refine zP rfl ?_|refine zK rfl ?_
  refine zF rfl (en_ashows1) (place (-1) (-1) h (by omega) (by omega) (by omega) (by omega)) ?_
  rintro e w6 ⟨rfl,k2⟩
  refine ⟨_,rfl,?_⟩
  have h:=h.below k2
  have hlt : plc W (-1) (-1) < m:=plt (by omega) (by omega)
  repeat first|refine zP rfl ?_|refine zK rfl ?_
  refine zI rfl (rfl) (hlt) ?_
  refine zS rfl rfl (h.r.cB (i:=0) rfl (j:=plc W (-1) (-1)) (by rw [rowB_len]; exact hlt)) (h.r.free (i:=0) rfl _) ?_
  have h:=h.storeB (i:=0) rfl (plc W (-1) (-1)) true
  rw [rowB_set (g:=tB W l 0) (fun j hj=>by
   rw [show plc W (-1) (-1) = 0 by simp [plc]]
   by_cases e : 0 = j
   ·subst e; rfl
   ·rw [if_neg e,tB,decide_eq_false (by omega)]; rfl)] at h
  exact o_nil ⟨⟨rfl,rfl,rfl,rfl,rfl,trivial⟩,h⟩
 refine wp_seq (wp_seq (seq_cut [(2,.slice al l.length cl),(3,Vp B),(4,Vp (B + 1)),(8,.func (.func 72) #[] #[Vp BW]),(9,(Vs g m m)),(32,.slice al l.length cl),(33,Vi l.length),(34,Vi (0 : Nat))] (· = w4) tab_ok hS ?_ (fun a w' hS hw=>?_)))
 ·repeat first|refine zP rfl ?_|refine zK rfl ?_
  exact o_nil ⟨⟨rfl,rfl,rfl,rfl,rfl,rfl,rfl,rfl,trivial⟩,rfl⟩
 subst hw
 refine wp_block (loop0 hS (fun γ E w'=>∃ k : Nat,k ≤ l.length ∧ γ = l.length - k ∧ E = [(2,.slice al l.length cl),(3,Vp B),(4,Vp (B + 1)),(8,.func (.func 72) #[] #[Vp BW]),(9,(Vs g m m)),(32,.slice al l.length cl),(33,Vi l.length),(34,Vi k)] ∧ Hold wc.heap.size wc w' [oB (Vs g m m) (rowB m (tB W l k)),oX 3 BW 1 [Vi W]]) l.length ⟨0,by omega,by omega,rfl,h⟩ ?_)
 clear h hS
 rintro γ E w5 a ⟨k,hk,rfl,rfl,h⟩ hS
 refine wp_seq (seq_cut [(2,.slice al l.length cl),(3,Vp B),(4,Vp (B + 1)),(8,.func (.func 72) #[] #[Vp BW]),(9,(Vs g m m)),(32,.slice al l.length cl),(33,Vi l.length),(34,Vi k),(35,.bool (decide (k < l.length)))] (· = w5) tab_ok hS ?_ (fun a w6 hS hw=>?_))
 ·repeat first|refine zP rfl ?_|refine zK rfl ?_
  refine zC rfl (lt_nat _ _) ?_
  repeat first|refine zP rfl ?_|refine zK rfl ?_
  exact o_nil ⟨⟨rfl,rfl,rfl,rfl,rfl,rfl,rfl,rfl,rfl,trivial⟩,rfl⟩
 subst hw
 refine wp_seq (cond hS rfl (fun hT=>wp_skip ?_) (fun hF=>?_))
 ·have hkk : k < l.length:=of_decide_eq_true hT
  refine wp_seq (wp_block (wp_seq (seq_cutx (α:=Nat) (fun P=>[(2,.slice al l.length cl),(3,Vp B),(4,Vp (B + 1)),(8,.func (.func 72) #[] #[Vp BW]),(9,(Vs g m m)),(32,.slice al l.length cl),(33,Vi l.length),(34,Vi k),(11,Vp P)]) (fun P w'=>BoxP w' P l[k].1 l[k].2 ∧ Hold wc.heap.size wc w' [oB (Vs g m m) (rowB m (tB W l k)),oX 3 BW 1 [Vi W]]) tab_ok hS ?_ (fun P a w7 hS h=>?_))))
  ·obtain ⟨-,-,-,-,hl⟩:=K _ h.b
   obtain ⟨b,o,rfl,hcell⟩:=hl.at hkk
   repeat first|refine zP rfl ?_|refine zK rfl ?_
   refine zI rfl (rfl) (hkk) ?_
   refine zA ([Vi l[k].1,Vi l[k].2]) rfl rfl (hcell) ?_
   refine zB rfl ?_
   refine o_step0 rfl rfl (And.intro rfl (And.intro rfl (And.intro (own_cells2 (OwnB.new w6 [Vi 0,Vi 0] 48)) ?_)))
   exact o_nil ⟨_,⟨rfl,rfl,rfl,rfl,rfl,rfl,rfl,rfl,rfl,trivial⟩,newP_box w6 l[k].1 l[k].2,h.below (newP_below w6 l[k].1 l[k].2)⟩
  obtain ⟨hp,h⟩:=h
  obtain ⟨r1,r2,r3,r4⟩:=hrng k hkk
  refine seq_cut [(2,.slice al l.length cl),(3,Vp B),(4,Vp (B + 1)),(8,.func (.func 72) #[] #[Vp BW]),(9,(Vs g m m)),(32,.slice al l.length cl),(33,Vi l.length),(34,Vi k)] (fun w'=>Hold wc.heap.size wc w' [oB (Vs g m m) (rowB m (tB W l (k + 1))),oX 3 BW 1 [Vi W]]) tab_ok hS ?_ (fun a w8 hS h=>?_)
  ·repeat first|refine zP rfl ?_|refine zK rfl ?_
   refine zA ([Vi l[k].1,Vi l[k].2]) rfl rfl (hp.cells) ?_
   refine zF rfl (en_ashows1) (place l[k].1 l[k].2 h r1 r2 r3 r4) ?_
   rintro e w8 ⟨rfl,k2⟩
   refine ⟨_,rfl,?_⟩
   have h:=h.below k2
   have hlt : plc W l[k].1 l[k].2 < m:=plt r2 r4
   repeat first|refine zP rfl ?_|refine zK rfl ?_
   refine zI rfl (rfl) (hlt) ?_
   refine zS rfl rfl (h.r.cB (i:=0) rfl (j:=plc W l[k].1 l[k].2) (by rw [rowB_len]; exact hlt)) (h.r.free (i:=0) rfl _) ?_
   have h:=h.storeB (i:=0) rfl (plc W l[k].1 l[k].2) true
   rw [tB_step hkk] at h
   exact o_nil ⟨⟨rfl,rfl,rfl,rfl,rfl,rfl,rfl,rfl,trivial⟩,h⟩
  refine block_normal ?_
  refine seq_cut [(2,.slice al l.length cl),(3,Vp B),(4,Vp (B + 1)),(8,.func (.func 72) #[] #[Vp BW]),(9,(Vs g m m)),(32,.slice al l.length cl),(33,Vi l.length),(34,Vi (k + 1 : Nat))] (· = w8) tab_ok hS ?_ (fun a w9 hS hw=>?_)
  ·repeat first|refine zP rfl ?_|refine zK rfl ?_
   refine zN rfl (i64_add k 1 (by omega)) ?_
   repeat first|refine zP rfl ?_|refine zK rfl ?_
   exact o_nil ⟨⟨rfl,rfl,rfl,rfl,rfl,rfl,rfl,rfl,trivial⟩,rfl⟩
  subst hw
  exact ⟨l.length - (k + 1),_,by omega,⟨k + 1,by omega,rfl,rfl,h⟩,hS⟩
 have hkk : k = l.length:=by have:=of_decide_eq_false hF; omega
 subst hkk
 refine wp_exit ?_
 repeat (first | refine then_exit ?_ | refine block_exit ?_ | refine block_other rfl ?_)
 have cell : ∀ {w' : World} {p q : Int},Hold wc.heap.size wc w' [oB (Vs g m m) (rowB m (tB W l l.length)),oX 3 BW 1 [Vi W]] → -1 ≤ p → p < n1.length → -1 ≤ q → q < n2.length → w'.cell? ⟨g,0 + plc W p q,none⟩ = some (.bool (thereM p q l)):=fun {w' p q} h k1 k2 k3 k4=>by
  have:=h.r.cB (i:=0) rfl (j:=plc W p q) (by rw [rowB_len]; exact plt k2 k4)
  rwa [rowB_get _ (plt k2 k4),tB_end hW hrng k1 k3 k4] at this
 refine wp_seq (wp_seq (seq_cut [(2,.slice al l.length cl),(3,Vp B),(4,Vp (B + 1)),(8,.func (.func 72) #[] #[Vp BW]),(9,(Vs g m m)),(52,.bool (!thereM s1 s2 l))] (fun w'=>Hold wc.heap.size wc w' [oB (Vs g m m) (rowB m (tB W l l.length)),oX 3 BW 1 [Vi W]]) tab_ok hS ?_ (fun a w7 hS h=>?_)))
 ·obtain ⟨hx,hz,-,-,-⟩:=K _ h.b
  repeat first|refine zP rfl ?_|refine zK rfl ?_
  refine zA ([Vi Ln,Vi s1,vn1,ve1]) rfl rfl (hx.cells) ?_
  refine zA ([Vi Ln,Vi s2,vn2,ve2]) rfl rfl (hz.cells) ?_
  refine zF rfl (en_astarts) (astarts_any (Ln : Int) s1 (Ln : Int) s2 vn1 ve1 vn2 ve2 w6) ?_
  rintro e w8 ⟨rfl,k1⟩
  refine ⟨_,rfl,?_⟩
  have h:=h.below k1
  repeat first|refine zP rfl ?_|refine zK rfl ?_
  refine zF rfl (en_ashows1) (place s1 s2 h hs1.s1 hs1.s2 hs2.s1 hs2.s2) ?_
  rintro e w9 ⟨rfl,k2⟩
  refine ⟨_,rfl,?_⟩
  have h:=h.below k2
  repeat first|refine zP rfl ?_|refine zK rfl ?_
  refine zI rfl (rfl) ((plt hs1.s2 hs2.s2)) ?_
  refine zL rfl (cell h hs1.s1 hs1.s2 hs2.s1 hs2.s2) ?_
  repeat first|refine zP rfl ?_|refine zK rfl ?_
  exact o_nil ⟨⟨rfl,rfl,rfl,rfl,rfl,rfl,trivial⟩,h⟩
 refine cond hS rfl (fun hT=>?_) (fun hF=>wp_skip ?_)
 ·refine wp_seq (seq_cut [(6,.bool false)] (· = w7) tab_ok hS ?_ (fun a w8 hS hw=>?_))
  ·repeat first|refine zP rfl ?_|refine zK rfl ?_
   exact o_nil ⟨⟨rfl,trivial⟩,rfl⟩
  subst hw
  have : thereM s1 s2 l = false:=by simpa using hT
  refine wp_ret ?_
  repeat (first | refine then_ret ?_ | refine block_ret ?_)
  exact ret1 hS rfl rfl ⟨by rw [this]; rfl,fin' h.b⟩
 have hth : thereM s1 s2 l = true:=by simpa using hF
 rw [hth,Bool.true_and]
 refine wp_seq (wp_seq (seq_cut [(2,.slice al l.length cl),(3,Vp B),(4,Vp (B + 1)),(8,.func (.func 72) #[] #[Vp BW]),(9,(Vs g m m)),(53,.slice al l.length cl),(54,Vi l.length),(55,Vi (0 : Nat))] (· = w7) tab_ok hS ?_ (fun a w' hS hw=>?_)))
 ·repeat first|refine zP rfl ?_|refine zK rfl ?_
  exact o_nil ⟨⟨rfl,rfl,rfl,rfl,rfl,rfl,rfl,rfl,trivial⟩,rfl⟩
 subst hw
 refine wp_block (loop0 hS (fun γ E w'=>∃ k : Nat,k ≤ l.length ∧ γ = l.length - k ∧ E = [(2,.slice al l.length cl),(3,Vp B),(4,Vp (B + 1)),(8,.func (.func 72) #[] #[Vp BW]),(9,(Vs g m m)),(53,.slice al l.length cl),(54,Vi l.length),(55,Vi k)] ∧ (∀ j (hj : j < l.length),j < k → apartM n1 n2 f1 f2 (Ln : Int) l l[j] = false) ∧ Hold wc.heap.size wc w' [oB (Vs g m m) (rowB m (tB W l l.length)),oX 3 BW 1 [Vi W]]) l.length ⟨0,by omega,by omega,rfl,fun j _ hj=>by omega,h⟩ ?_)
 clear h hS
 rintro γ E w8 a ⟨k,hk,rfl,rfl,hgo,h⟩ hS
 refine wp_seq (seq_cut [(2,.slice al l.length cl),(3,Vp B),(4,Vp (B + 1)),(8,.func (.func 72) #[] #[Vp BW]),(9,(Vs g m m)),(53,.slice al l.length cl),(54,Vi l.length),(55,Vi k),(56,.bool (decide (k < l.length)))] (· = w8) tab_ok hS ?_ (fun a w9 hS hw=>?_))
 ·repeat first|refine zP rfl ?_|refine zK rfl ?_
  refine zC rfl (lt_nat _ _) ?_
  repeat first|refine zP rfl ?_|refine zK rfl ?_
  exact o_nil ⟨⟨rfl,rfl,rfl,rfl,rfl,rfl,rfl,rfl,rfl,trivial⟩,rfl⟩
 subst hw
 refine wp_seq (cond hS rfl (fun hT=>wp_skip ?_) (fun hF=>?_))
 rotate_left
 ·have hkk : k = l.length:=by have:=of_decide_eq_false hF; omega
  refine wp_exit ?_
  repeat (first | refine then_exit ?_ | refine block_exit ?_ | refine block_other rfl ?_)
  refine wp_seq (seq_cut [(6,.bool true)] (· = w9) tab_ok hS ?_ (fun a w10 hS hw=>?_))
  ·repeat first|refine zP rfl ?_|refine zK rfl ?_
   exact o_nil ⟨⟨rfl,trivial⟩,rfl⟩
  subst hw
  have hno : l.any (apartM n1 n2 f1 f2 (Ln : Int) l) = false:=Bool.eq_false_iff.2 fun hh=>by
   obtain ⟨p,hp,hb⟩:=List.any_eq_true.1 hh
   obtain ⟨i,hi,rfl⟩:=List.getElem_of_mem hp
   rw [hgo i hi (by omega)] at hb
   cases hb
  refine wp_ret ?_
  repeat (first | refine then_ret ?_ | refine block_ret ?_)
  exact ret1 hS rfl rfl ⟨by rw [hno]; rfl,fin' h.b⟩
 have hkk : k < l.length:=of_decide_eq_true hT
 have anyT : apartM n1 n2 f1 f2 (Ln : Int) l l[k] = true → l.any (apartM n1 n2 f1 f2 (Ln : Int) l) = true:=fun hh=>List.any_eq_true.2 ⟨_,List.getElem_mem hkk,hh⟩
 refine wp_seq (wp_block (wp_seq (seq_cutx (α:=Nat) (fun P=>[(2,.slice al l.length cl),(3,Vp B),(4,Vp (B + 1)),(8,.func (.func 72) #[] #[Vp BW]),(9,(Vs g m m)),(53,.slice al l.length cl),(54,Vi l.length),(55,Vi k),(13,Vp P)]) (fun P w'=>BoxP w' P l[k].1 l[k].2 ∧ Hold wc.heap.size wc w' [oB (Vs g m m) (rowB m (tB W l l.length)),oX 3 BW 1 [Vi W]]) tab_ok hS ?_ (fun P a w10 hS h=>?_))))
 ·obtain ⟨-,-,-,-,hl⟩:=K _ h.b
  obtain ⟨b,o,rfl,hcell⟩:=hl.at hkk
  repeat first|refine zP rfl ?_|refine zK rfl ?_
  refine zI rfl (rfl) (hkk) ?_
  refine zA ([Vi l[k].1,Vi l[k].2]) rfl rfl (hcell) ?_
  refine zB rfl ?_
  refine o_step0 rfl rfl (And.intro rfl (And.intro rfl (And.intro (own_cells2 (OwnB.new w9 [Vi 0,Vi 0] 48)) ?_)))
  exact o_nil ⟨_,⟨rfl,rfl,rfl,rfl,rfl,rfl,rfl,rfl,rfl,trivial⟩,newP_box w9 l[k].1 l[k].2,h.below (newP_below w9 l[k].1 l[k].2)⟩
 obtain ⟨hp,h⟩:=h
 obtain ⟨r1,r2,r3,r4⟩:=hrng k hkk
 have hak : apartM n1 n2 f1 f2 (Ln : Int) l l[k] = ((endsM f1 l[k].1 != endsM f2 l[k].2) || (List.range Ln).any (fun (c : Nat)=>!thereM (stepM n1 l[k].1 c) (stepM n2 l[k].2 c) l)):=by rw [apartM,Int.toNat_natCast]
 obtain ⟨p,hpe⟩ : ∃ p,p = l[k].1:=⟨_,rfl⟩
 obtain ⟨q,hqe⟩ : ∃ q,q = l[k].2:=⟨_,rfl⟩
 rw [← hpe,← hqe] at hp hak
 rw [← hpe] at r1 r2
 rw [← hqe] at r3 r4
 refine wp_seq (wp_seq (quiet_cut [(2,.slice al l.length cl),(3,Vp B),(4,Vp (B + 1)),(8,.func (.func 72) #[] #[Vp BW]),(9,(Vs g m m)),(53,.slice al l.length cl),(54,Vi l.length),(55,Vi k),(13,Vp P),(67,.bool (endsM f1 p != endsM f2 q))] tab_ok mixed (by kernel_rfl) hS ?_ (fun a w11 hS hw=>?_)))
 ·obtain ⟨hx,hz,hm,hm2,-⟩:=K _ h.b
  refine qA ([Vi Ln,Vi s1,vn1,ve1]) rfl rfl (hx.cells) ?_
  repeat first|refine qP rfl ?_|refine qK rfl ?_
  refine qL rfl (hp.c0) ?_
  refine qF (.bool (endsM f1 p)) rfl (en_aends) (fun w1 h1=>aends_any (Ln : Int) s1 vn1 ve1 f1 p w1 (hm.keep h1).e (by rw [hs1.fin]; exact r2)) ?_
  refine qA ([Vi Ln,Vi s2,vn2,ve2]) rfl rfl (hz.cells) ?_
  repeat first|refine qP rfl ?_|refine qK rfl ?_
  refine qL rfl (hp.c1) ?_
  refine qF (.bool (endsM f2 q)) rfl (en_aends) (fun w1 h1=>aends_any (Ln : Int) s2 vn2 ve2 f2 q w1 (hm2.keep h1).e (by rw [hs2.fin]; exact r4)) ?_
  refine qC rfl (rfl) ?_
  repeat first|refine qP rfl ?_|refine qK rfl ?_
  exact q_nil ⟨rfl,rfl,rfl,rfl,rfl,rfl,rfl,rfl,rfl,rfl,trivial⟩
 replace h:=h.below hw
 replace hp:=hp.keep hw
 clear hw
 refine cond hS rfl (fun hT=>?_) (fun hF=>wp_skip ?_)
 ·refine wp_seq (seq_cut [(6,.bool false)] (· = w11) tab_ok hS ?_ (fun a w12 hS hw=>?_))
  ·repeat first|refine zP rfl ?_|refine zK rfl ?_
   exact o_nil ⟨⟨rfl,trivial⟩,rfl⟩
  subst hw
  refine wp_ret ?_
  repeat (first | refine then_ret ?_ | refine block_ret ?_)
  exact ret1 hS rfl rfl ⟨by rw [anyT (by rw [hak,hT]; rfl)]; rfl,fin' h.b⟩
 rw [hF,Bool.false_or] at hak
 refine wp_seq (seq_cut [(2,.slice al l.length cl),(3,Vp B),(4,Vp (B + 1)),(8,.func (.func 72) #[] #[Vp BW]),(9,(Vs g m m)),(53,.slice al l.length cl),(54,Vi l.length),(55,Vi k),(13,Vp P),(69,Vi Ln),(70,Vi (0 : Nat))] (· = w11) tab_ok hS ?_ (fun a w12 hS hw=>?_))
 ·obtain ⟨hx,-,-,-,-⟩:=K _ h.b
  repeat first|refine zP rfl ?_|refine zK rfl ?_
  refine zL rfl (hx.c0) ?_
  repeat first|refine zP rfl ?_|refine zK rfl ?_
  exact o_nil ⟨⟨rfl,rfl,rfl,rfl,rfl,rfl,rfl,rfl,rfl,rfl,rfl,trivial⟩,rfl⟩
 subst hw
 refine wp_block (loop0 hS (fun γ E w'=>∃ c : Nat,c ≤ Ln ∧ γ = Ln - c ∧ E = [(2,.slice al l.length cl),(3,Vp B),(4,Vp (B + 1)),(8,.func (.func 72) #[] #[Vp BW]),(9,(Vs g m m)),(53,.slice al l.length cl),(54,Vi l.length),(55,Vi k),(13,Vp P),(69,Vi Ln),(70,Vi c)] ∧ (∀ d : Nat,d < c → thereM (stepM n1 p d) (stepM n2 q d) l = true) ∧ BoxP w' P p q ∧ Hold wc.heap.size wc w' [oB (Vs g m m) (rowB m (tB W l l.length)),oX 3 BW 1 [Vi W]]) Ln ⟨0,by omega,by omega,rfl,fun j hj=>by omega,hp,h⟩ ?_)
 clear h hS hp
 rintro γ E w13 a ⟨c,hc,rfl,rfl,hgo3,hp,h⟩ hS
 refine wp_seq (seq_cut [(2,.slice al l.length cl),(3,Vp B),(4,Vp (B + 1)),(8,.func (.func 72) #[] #[Vp BW]),(9,(Vs g m m)),(53,.slice al l.length cl),(54,Vi l.length),(55,Vi k),(13,Vp P),(69,Vi Ln),(70,Vi c),(71,.bool (decide (c < Ln)))] (· = w13) tab_ok hS ?_ (fun a w14 hS hw=>?_))
 ·repeat first|refine zP rfl ?_|refine zK rfl ?_
  refine zC rfl (lt_nat _ _) ?_
  repeat first|refine zP rfl ?_|refine zK rfl ?_
  exact o_nil ⟨⟨rfl,rfl,rfl,rfl,rfl,rfl,rfl,rfl,rfl,rfl,rfl,rfl,trivial⟩,rfl⟩
 subst hw
 refine wp_seq (cond hS rfl (fun hT=>wp_skip ?_) (fun hF=>?_))
 rotate_left
 ·have hcc : c = Ln:=by have:=of_decide_eq_false hF; omega
  refine wp_exit ?_
  repeat (first | refine then_exit ?_ | refine block_exit ?_ | refine block_other rfl ?_)
  have hno : apartM n1 n2 f1 f2 (Ln : Int) l l[k] = false:=by
   rw [hak]
   refine Bool.eq_false_iff.2 (fun h=>?_)
   obtain ⟨d,hd,hb⟩:=List.any_eq_true.1 h
   rw [hgo3 d (by have:=List.mem_range.1 hd; omega)] at hb
   cases hb
  refine block_normal ?_
  refine seq_cut [(2,.slice al l.length cl),(3,Vp B),(4,Vp (B + 1)),(8,.func (.func 72) #[] #[Vp BW]),(9,(Vs g m m)),(53,.slice al l.length cl),(54,Vi l.length),(55,Vi (k + 1 : Nat))] (· = w14) tab_ok hS ?_ (fun a w15 hS hw=>?_)
  ·repeat first|refine zP rfl ?_|refine zK rfl ?_
   refine zN rfl (i64_add k 1 (by omega)) ?_
   repeat first|refine zP rfl ?_|refine zK rfl ?_
   exact o_nil ⟨⟨rfl,rfl,rfl,rfl,rfl,rfl,rfl,rfl,trivial⟩,rfl⟩
  subst hw
  refine ⟨l.length - (k + 1),_,by omega,⟨k + 1,by omega,rfl,rfl,fun j hj hjk=>?_,h⟩,hS⟩
  rcases Nat.lt_or_ge j k with hlt2 | hge2
  ·exact hgo j hj hlt2
  ·obtain rfl : j = k:=by omega
   exact hno
 have hcc : c < Ln:=of_decide_eq_true hT
 have row : ∀ {nn : List (List Int)} {ss : Int} {ff : List Bool} {x : Int},Shape (Ln : Int) ss nn ff → -1 ≤ x → x < nn.length → (0 ≤ x → (0 : Int) ≤ (c : Int) ∧ ((c : Int) < (nn.getD x.toNat []).length)) ∧ -1 ≤ stepM nn x c ∧ stepM nn x c < nn.length:=fun {nn ss ff x} hs hx1 hx2=>by
  by_cases h0 : x < 0
  ·refine ⟨fun h=>by omega,?_⟩
   rw [stepM,if_pos h0]; omega
  ·obtain ⟨y,rfl⟩ : ∃ y : Nat,x = y:=⟨x.toNat,by omega⟩
   have hy : y < nn.length:=by omega
   obtain ⟨g1,g2⟩:=hs.rows y hy
   have hcl : c < nn[y].length:=by omega
   have e1 : nn.getD y [] = nn[y]:=by simp [List.getD_eq_getElem?_getD,hy]
   rw [stepM,if_neg h0,Int.toNat_natCast,Int.toNat_natCast,e1]
   refine ⟨fun _=>by omega,?_⟩
   have:=g2 c hcl
   rw [show nn[y].getD c (-1) = nn[y][c] by simp [List.getD_eq_getElem?_getD,hcl]]
   exact this
 obtain ⟨t1,u1,u2⟩:=row hs1 r1 r2
 obtain ⟨t2,u3,u4⟩:=row hs2 r3 r4
 refine wp_seq (wp_block (wp_seq (seq_cut [(2,.slice al l.length cl),(3,Vp B),(4,Vp (B + 1)),(8,.func (.func 72) #[] #[Vp BW]),(9,(Vs g m m)),(53,.slice al l.length cl),(54,Vi l.length),(55,Vi k),(13,Vp P),(69,Vi Ln),(70,Vi c),(14,Vi c)] (· = w14) tab_ok hS ?_ (fun a w15 hS hw=>?_))))
 ·repeat first|refine zP rfl ?_|refine zK rfl ?_
  exact o_nil ⟨⟨rfl,rfl,rfl,rfl,rfl,rfl,rfl,rfl,rfl,rfl,rfl,rfl,trivial⟩,rfl⟩
 subst hw
 refine wp_seq (seq_cut [(2,.slice al l.length cl),(3,Vp B),(4,Vp (B + 1)),(8,.func (.func 72) #[] #[Vp BW]),(9,(Vs g m m)),(53,.slice al l.length cl),(54,Vi l.length),(55,Vi k),(13,Vp P),(69,Vi Ln),(70,Vi c),(83,.bool (!thereM (stepM n1 p c) (stepM n2 q c) l))] (fun w'=>BoxP w' P p q ∧ Hold wc.heap.size wc w' [oB (Vs g m m) (rowB m (tB W l l.length)),oX 3 BW 1 [Vi W]]) tab_ok hS ?_ (fun a w16 hS h=>?_))
 ·obtain ⟨hx,hz,hm,hm2,-⟩:=K _ h.b
  repeat first|refine zP rfl ?_|refine zK rfl ?_
  refine zA ([Vi Ln,Vi s1,vn1,ve1]) rfl rfl (hx.cells) ?_
  refine zA ([Vi Ln,Vi s2,vn2,ve2]) rfl rfl (hz.cells) ?_
  refine zA ([Vi p,Vi q]) rfl rfl (hp.cells) ?_
  repeat first|refine zP rfl ?_|refine zK rfl ?_
  refine zF rfl (en_afollowBoth) (afollowBoth_any (Ln : Int) s1 (Ln : Int) s2 p q (c : Int) vn1 ve1 vn2 ve2 n1 n2 w15 hm.n hm2.n r2 r4 t1 t2) ?_
  rintro e w17 ⟨rfl,k1⟩
  refine ⟨_,rfl,?_⟩
  have h:=h.below k1
  have hp:=hp.keep k1
  repeat first|refine zP rfl ?_|refine zK rfl ?_
  refine zF rfl (en_ashows1) (place (stepM n1 p c) (stepM n2 q c) h u1 u2 u3 u4) ?_
  rintro e w18 ⟨rfl,k2⟩
  refine ⟨_,rfl,?_⟩
  have h:=h.below k2
  have hp:=hp.keep k2
  repeat first|refine zP rfl ?_|refine zK rfl ?_
  refine zI rfl (rfl) ((plt u2 u4)) ?_
  refine zL rfl (cell h u1 u2 u3 u4) ?_
  repeat first|refine zP rfl ?_|refine zK rfl ?_
  exact o_nil ⟨⟨rfl,rfl,rfl,rfl,rfl,rfl,rfl,rfl,rfl,rfl,rfl,rfl,trivial⟩,⟨hp,h⟩⟩
 obtain ⟨hp,h⟩:=h
 refine cond hS rfl (fun hT=>?_) (fun hF=>wp_skip ?_)
 ·refine wp_seq (seq_cut [(6,.bool false)] (· = w16) tab_ok hS ?_ (fun a w17 hS hw=>?_))
  ·repeat first|refine zP rfl ?_|refine zK rfl ?_
   exact o_nil ⟨⟨rfl,trivial⟩,rfl⟩
  subst hw
  refine wp_ret ?_
  repeat (first | refine then_ret ?_ | refine block_ret ?_)
  exact ret1 hS rfl rfl ⟨by rw [anyT (by rw [hak]; exact List.any_eq_true.2 ⟨c,List.mem_range.2 hcc,hT⟩)]; rfl,fin' h.b⟩
 refine block_normal ?_
 refine seq_cut [(2,.slice al l.length cl),(3,Vp B),(4,Vp (B + 1)),(8,.func (.func 72) #[] #[Vp BW]),(9,(Vs g m m)),(53,.slice al l.length cl),(54,Vi l.length),(55,Vi k),(13,Vp P),(69,Vi Ln),(70,Vi (c + 1 : Nat))] (· = w16) tab_ok hS ?_ (fun a w17 hS hw=>?_)
 ·repeat first|refine zP rfl ?_|refine zK rfl ?_
  refine zN rfl (i64_add c 1 (by omega)) ?_
  repeat first|refine zP rfl ?_|refine zK rfl ?_
  exact o_nil ⟨⟨rfl,rfl,rfl,rfl,rfl,rfl,rfl,rfl,rfl,rfl,rfl,trivial⟩,rfl⟩
 subst hw
 refine ⟨Ln - (c + 1),_,by omega,⟨c + 1,by omega,rfl,rfl,fun d hd=>?_,hp,h⟩,hS⟩
 rcases Nat.lt_or_ge d c with hlt2 | hge2
 ·exact hgo3 d hlt2
 ·obtain rfl : d = c:=by omega
  simpa using hF
theorem aCheck_c : CheckC 18:=fun L1 s1 L2 s2 vn1 ve1 vn2 ve2 v n1 n2 f1 f2 l w hm hm2 hl=>by
 refine Sym.enter (args:=[.agg #[Vi L1,Vi s1,vn1,ve1],.agg #[Vi L2,Vi s2,vn2,ve2],v]) Tryz.func18 rfl rfl rfl (fun a0 hS0=>?_)
 obtain ⟨B,hBB⟩ : ∃ B,B = w.heap.size:=⟨_,rfl⟩
 refine wp_seq (seq_cut [(2,v),(3,Vp B),(4,Vp (B + 1))] (· = (w.alloc (.cells #[Vi L1,Vi s1,vn1,ve1] 25)).alloc (.cells #[Vi L2,Vi s2,vn2,ve2] 25)) tab_ok hS0 ?_ (fun a wc hS hw=>?_))
 ·subst hBB
  refine zB rfl ?_
  refine zB rfl ?_
  rw [alloc_size]
  repeat first|refine zP rfl ?_|refine zK rfl ?_
  exact o_nil ⟨⟨rfl,rfl,rfl,trivial⟩,rfl⟩
 obtain ⟨hB,hx,hz⟩:=box_two hw
 rw [← hBB] at hx hz
 clear hw
 replace hm:=hm.keep hB
 replace hm2:=hm2.keep hB
 replace hl:=hl.keep hB
 obtain ⟨z,hz'⟩ : ∃ z,z = twoM L1 s1 n1 f1 L2 s2 n2 f2:=⟨_,rfl⟩
 refine wp_seq (wp_seq (seq_cut [(2,v),(3,Vp B),(4,Vp (B + 1)),(7,Vi z)] (fun w'=>RowKit.Below wc.heap.size wc w') tab_ok hS ?_ (fun a w2 hS hw=>?_)))
 ·refine zA ([Vi L1,Vi s1,vn1,ve1]) rfl rfl (hx.cells) ?_
  refine zA ([Vi L2,Vi s2,vn2,ve2]) rfl rfl (hz.cells) ?_
  refine zF rfl (en_afit) (afit_any L1 s1 L2 s2 vn1 ve1 vn2 ve2 n1 n2 f1 f2 wc hm hm2) ?_
  rintro e w1 ⟨rfl,h1⟩
  refine ⟨_,rfl,?_⟩
  subst hz'
  repeat first|refine zP rfl ?_|refine zK rfl ?_
  exact o_nil ⟨⟨rfl,rfl,rfl,rfl,trivial⟩,h1⟩
 replace hB:=below_trans hB hw
 replace hx:=hx.keep hw
 replace hz:=hz.keep hw
 replace hm:=hm.keep hw
 replace hm2:=hm2.keep hw
 replace hl:=hl.keep hw
 clear hw
 refine wp_seq (seq_cut [(2,v),(3,Vp B),(4,Vp (B + 1)),(7,Vi z),(12,.bool (decide (z ≠ 0)))] (· = w2) tab_ok hS ?_ (fun a w3 hS hw=>?_))
 ·repeat first|refine zP rfl ?_|refine zK rfl ?_
  refine zC rfl (rfl) ?_
  repeat first|refine zP rfl ?_|refine zK rfl ?_
  exact o_nil ⟨⟨rfl,rfl,rfl,rfl,rfl,trivial⟩,rfl⟩
 subst hw
 refine cond hS rfl (fun hT=>?_) (fun hF=>wp_skip ?_)
 ·refine wp_seq (seq_cut [(6,Vi z)] (· = w3) tab_ok hS ?_ (fun a w4 hS hw=>?_))
  ·repeat first|refine zP rfl ?_|refine zK rfl ?_
   exact o_nil ⟨⟨rfl,trivial⟩,rfl⟩
  subst hw
  refine wp_ret ?_
  repeat (first | refine then_ret ?_ | refine block_ret ?_)
  exact ret1 hS rfl rfl ⟨by rw [checkM,← hz',if_pos (of_decide_eq_true hT)],hB⟩
 have hz0 : z = 0:=Decidable.not_not.1 (of_decide_eq_false hF)
 obtain ⟨hv1,hv2,hLL⟩:=two_zero (hz'.symm.trans hz0)
 have hck : checkM L1 s1 n1 f1 L2 s2 n2 f2 l = if (List.range l.length).any (badM n1.length n2.length l) = true then 2
   else if thereM s1 s2 l = false then 8 else if l.any (apartM n1 n2 f1 f2 L1 l) = true then 8 else 0:=by
  rw [checkM,← hz',hz0]; rfl
 refine wp_seq (wp_seq (seq_cut [(2,v),(3,Vp B),(4,Vp (B + 1)),(18,.bool ((List.range l.length).any (badM n1.length n2.length l)))] (fun w'=>RowKit.Below w3.heap.size w3 w') tab_ok hS ?_ (fun a w4 hS hw=>?_)))
 ·refine zA ([Vi L1,Vi s1,vn1,ve1]) rfl rfl (hx.cells) ?_
  refine zA ([Vi L2,Vi s2,vn2,ve2]) rfl rfl (hz.cells) ?_
  repeat first|refine zP rfl ?_|refine zK rfl ?_
  refine zF rfl (en_aisRelation) (aisRelation_any L1 s1 L2 s2 vn1 ve1 vn2 ve2 v n1 n2 f1 f2 l w3 hm hm2 hl) ?_
  rintro e w1 ⟨rfl,h1⟩
  refine ⟨_,rfl,?_⟩
  repeat first|refine zP rfl ?_|refine zK rfl ?_
  rw [Bool.not_not]
  exact o_nil ⟨⟨rfl,rfl,rfl,rfl,trivial⟩,h1⟩
 replace hB:=below_trans hB hw
 replace hx:=hx.keep hw
 replace hz:=hz.keep hw
 replace hm:=hm.keep hw
 replace hm2:=hm2.keep hw
 replace hl:=hl.keep hw
 clear hw
 refine cond hS rfl (fun hT=>?_) (fun hF=>wp_skip ?_)
 ·refine wp_seq (seq_cut [(6,Vi 2)] (· = w4) tab_ok hS ?_ (fun a w5 hS hw=>?_))
  ·repeat first|refine zP rfl ?_|refine zK rfl ?_
   exact o_nil ⟨⟨rfl,trivial⟩,rfl⟩
  subst hw
  refine wp_ret ?_
  repeat (first | refine then_ret ?_ | refine block_ret ?_)
  exact ret1 hS rfl rfl ⟨by rw [hck,if_pos hT],hB⟩
 rw [if_neg (by rw [hF]; exact Bool.false_ne_true)] at hck
 have hrng : ∀ i (h : i < l.length),-1 ≤ l[i].1 ∧ l[i].1 < n1.length ∧ -1 ≤ l[i].2 ∧ l[i].2 < n2.length:=fun i h=>bad_range h (by
  refine Bool.eq_false_iff.2 fun hb=>?_
  rw [List.any_eq_true.2 ⟨i,List.mem_range.2 h,hb⟩] at hF
  cases hF)
 refine wp_seq (wp_seq (seq_cut [(23,.bool (!(thereM s1 s2 l && !(l.any (apartM n1 n2 f1 f2 L1 l)))))] (fun w'=>RowKit.Below w4.heap.size w4 w') tab_ok hS ?_ (fun a w5 hS hw=>?_)))
 ·refine zA ([Vi L1,Vi s1,vn1,ve1]) rfl rfl (hx.cells) ?_
  refine zA ([Vi L2,Vi s2,vn2,ve2]) rfl rfl (hz.cells) ?_
  repeat first|refine zP rfl ?_|refine zK rfl ?_
  refine zF rfl (en_ashows) (ashows_any L1 s1 L2 s2 vn1 ve1 vn2 ve2 v n1 n2 f1 f2 l w4 hm hm2 hl hv1 hv2 hLL hrng) ?_
  rintro e w1 ⟨rfl,h1⟩
  refine ⟨_,rfl,?_⟩
  repeat first|refine zP rfl ?_|refine zK rfl ?_
  exact o_nil ⟨⟨rfl,trivial⟩,h1⟩
 replace hB:=below_trans hB hw
 refine cond hS rfl (fun hT=>?_) (fun hF2=>wp_skip ?_)
 ·refine wp_seq (seq_cut [(6,Vi 8)] (· = w5) tab_ok hS ?_ (fun a w6 hS hw=>?_))
  ·repeat first|refine zP rfl ?_|refine zK rfl ?_
   exact o_nil ⟨⟨rfl,trivial⟩,rfl⟩
  subst hw
  refine wp_ret ?_
  repeat (first | refine then_ret ?_ | refine block_ret ?_)
  refine ret1 hS rfl rfl ⟨?_,hB⟩
  rw [hck]
  cases h1 : thereM s1 s2 l
  ·rfl
  ·cases h2 : l.any (apartM n1 n2 f1 f2 L1 l)
   ·rw [h1,h2] at hT; cases hT
   ·rfl
 refine wp_seq (seq_cut [(6,Vi 0)] (· = w5) tab_ok hS ?_ (fun a w6 hS hw=>?_))
 ·repeat first|refine zP rfl ?_|refine zK rfl ?_
  exact o_nil ⟨⟨rfl,trivial⟩,rfl⟩
 subst hw
 refine wp_ret ?_
 repeat (first | refine then_ret ?_ | refine block_ret ?_)
 refine ret1 hS rfl rfl ⟨?_,hB⟩
 rw [hck]
 cases h1 : thereM s1 s2 l
 ·rw [h1] at hF2; cases hF2
 ·cases h2 : l.any (apartM n1 n2 f1 f2 L1 l)
  ·rfl
  ·rw [h1,h2] at hF2; cases hF2
end Go.Proofs.YthcoppfiahnpoaaGreat
