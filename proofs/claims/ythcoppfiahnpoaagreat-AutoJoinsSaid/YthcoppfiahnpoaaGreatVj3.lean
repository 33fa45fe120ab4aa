/- AutoJoins holds of the program as it landed: Both and Either give, for any two machines of at most 30 states and 8 letters, what the product of the two gives, made small. -/
import Derived.Maps.OwnSet
import Derived.Test.YthcoppfiahnpoaaGreatVj2
set_option maxRecDepth 100000
namespace Go.Proofs.YthcoppfiahnpoaaGreat
open Go Sym
theorem en_classes : enters Tryz.prog 74 = true:=by kernel_rfl
theorem en_none : enters Tryz.prog 75 = true:=by kernel_rfl
theorem en_found : enters Tryz.prog 76 = true:=by kernel_rfl
set_option maxHeartbeats 4000000 in
theorem shrunk_any (L s : Int) (vn ve : Value) (next : List (List Int)) (fin : List Bool) (w : World) (hm : Ma w L s next fin vn ve) (hs : Shape L s next fin) (hn : next.length ≤ 1000000) (hL : L ≤ 1000) :
  Calls Tryz.prog 47 #[.agg #[Vi L,Vi s,vn,ve]] w fun e w'=>∃ (s' : Int) (vn' ve' : Value) (n' : List (List Int)) (f' : List Bool),e = .returned (.agg #[Vi L,Vi s',vn',ve']) ∧ OwnM w.heap.size w' n' f' vn' ve' ∧ RowKit.Below w.heap.size w w' ∧
   Canon L s' n' f' ∧ Alike L.toNat n' f' s' next fin s ∧ n'.length ≤ next.length:=by
 refine Sym.enter (args:=[.agg #[Vi L,Vi s,vn,ve]]) Tryz.func47 rfl rfl rfl (fun a0 hS0=>?_)
 have hs' : Shape (L.toNat : Int) s next fin:=by rw [Int.toNat_of_nonneg hs.L0]; exact hs
 have hL0:=hs.L0
 obtain ⟨N,hN⟩ : ∃ N,N = (w.alloc (.cells #[Vi L,Vi s,vn,ve] 25)).heap.size:=⟨_,rfl⟩
 obtain ⟨M,hM⟩ : ∃ M,M = w.heap.size:=⟨_,rfl⟩
 refine wp_seq (seq_cut [(1,Vp M),(2,Vp N)] (· = (w.alloc (.cells #[Vi L,Vi s,vn,ve] 25)).alloc (.cells #[Vi 0,Vi 0,.slice none 0 0,.slice none 0 0] 25)) tab_ok hS0 ?_ (fun a wc hS hw=>?_))
 ·subst hN hM
  refine zB rfl ?_
  refine zB rfl ?_
  exact o_nil ⟨⟨rfl,rfl,trivial⟩,rfl⟩
 have hB1:=below_alloc w (.cells #[Vi L,Vi s,vn,ve] 25)
 have hB2:=below_alloc (w.alloc (.cells #[Vi L,Vi s,vn,ve] 25)) (.cells #[Vi 0,Vi 0,.slice none 0 0,.slice none 0 0] 25)
 rw [← hw] at hB2
 have hB:=below_trans hB1 hB2
 have hx : Box wc M L s vn ve:=by rw [hM]; exact (Box.new w L s vn ve 25).keep hB2
 have hoN : OwnB wc N 25 [Vi 0,Vi 0,.slice none 0 0,.slice none 0 0]:=by rw [hw,hN]; exact OwnB.new _ _ _
 have hNw : w.heap.size ≤ N:=by rw [hN]; exact hB1.size
 have hNc : N < wc.heap.size:=hoN.lt
 clear hw hB1 hB2 hN hM
 replace hm:=hm.keep hB
 refine wp_seq (seq_cutx (α:=Nat × Nat × List Int × Nat) (fun x=>[(1,Vp M),(2,Vp N),(3,Vs x.1 next.length x.2.1)]) (fun x w'=>RowKit.Below wc.heap.size wc w' ∧ Rows wc.heap.size w' [oI (Vs x.1 next.length x.2.1) x.2.2.1] ∧ Cls L.toNat next fin x.2.2.1 x.2.2.2) tab_ok hS ?_ (fun x a w1 hS h1=>?_))
 ·refine zA ([Vi L,Vi s,vn,ve]) rfl rfl (hx.cells) ?_
  refine zF rfl (en_classes) (classes_any L s vn ve next fin _ hm hs (by omega)) ?_
  rintro e w1 ⟨g,c,cls,m,rfl,h1,h2,h3⟩
  refine ⟨_,rfl,?_⟩
  repeat first|refine zP rfl ?_|refine zK rfl ?_
  exact o_nil ⟨(g,c,cls,m),⟨rfl,rfl,rfl,trivial⟩,h2,h1,h3⟩
 obtain ⟨O,cO,cls,m⟩:=x
 obtain ⟨hK,hRO,hC⟩:=h1
 dsimp only at hS hRO hC
 have hcl:=hC.len
 have hO : w1.ownsRow wc.heap.size 3 1 (Vs O next.length cO) next.length (ints cls):=by
  have this : w1.ownsRow wc.heap.size 3 1 (Vs O next.length cO) cls.length (ints cls):=hRO.1 0 _ rfl
  rw [hcl] at this; exact this
 clear hRO
 have hmn : m ≤ next.length:=by
  have hnd : ∃ rep : Nat → Nat,∀ v,v < m → rep v < next.length ∧ cls.getD (rep v) 0 = (v : Int):=by
   have : ∀ v : Nat,∃ i : Nat,v < m → i < next.length ∧ cls.getD i 0 = (v : Int):=fun v=>by
    by_cases hv : v < m
    ·obtain ⟨i,a,b⟩:=hC.hit v hv
     exact ⟨i,fun _=>⟨a,b⟩⟩
    ·exact ⟨0,fun h=>(hv h).elim⟩
   exact Classical.axiomOfChoice this
  obtain ⟨rep,hrep⟩:=hnd
  have h1 : ((List.range m).map rep).Nodup:=by
   refine List.pairwise_map.2 (List.Pairwise.imp_of_mem (R:=(· ≠ ·)) (fun {a b} ha hb hab he=>hab ?_) List.nodup_range)
   have h2:=(hrep a (List.mem_range.1 ha)).2
   have h3:=(hrep b (List.mem_range.1 hb)).2
   rw [he] at h2
   omega
  have:=h1.length_le_of_subset (l₂:=List.range next.length) (fun x hx=>by
   obtain ⟨v,hv,rfl⟩:=List.mem_map.1 hx
   exact List.mem_range.2 (hrep v (List.mem_range.1 hv)).1)
  simpa using this
 have hcrng : ∀ x ∈ cls,-1 ≤ x ∧ x < m:=fun x hx=>by
  obtain ⟨j,hj,rfl⟩:=List.mem_iff_getElem.1 hx
  have a:=hC.low j (by omega)
  have b:=hC.top j (by omega)
  rw [getD_lt hj] at a b
  exact ⟨a,b⟩
 have hcell : ∀ {w' : World},w'.ownsRow wc.heap.size 3 1 (Vs O next.length cO) next.length (ints cls) → ∀ {j : Nat} (hj : j < cls.length),w'.cell? ⟨O,0 + j,none⟩ = some (Vi cls[j]):=fun h j hj=>own_cell h hj hcl.symm
 obtain ⟨b30,hb30⟩ : ∃ b,decide (clsOf cls s < 0) = b:=⟨_,rfl⟩
 refine wp_seq (wp_seq (seq_cut [(1,Vp M),(2,Vp N),(3,Vs O next.length cO),(30,.bool b30)] (· = w1) tab_ok hS ?_ (fun a w2 hS hw=>?_)))
 ·repeat first|refine zP rfl ?_|refine zK rfl ?_
  refine zL rfl ((hx.keep hK).c1) ?_
  cases e1 : decide (s < 0)
  case true=>
   rw [clsOf_neg (of_decide_eq_true e1)] at hb30
   subst hb30
   refine zC rfl (e1) ?_
   repeat first|refine zP rfl ?_|refine zK rfl ?_
   exact o_nil ⟨⟨rfl,rfl,rfl,rfl,trivial⟩,rfl⟩
  case false=>
   have h0:=of_decide_eq_false e1
   obtain ⟨z,rfl⟩:=Int.eq_ofNat_of_zero_le (Int.not_lt.1 h0)
   have hz : z < cls.length:=by have:=hs.s2; omega
   rw [clsOf_nat,getD_lt hz] at hb30
   refine zC rfl (e1) ?_
   repeat first|refine zP rfl ?_|refine zK rfl ?_
   refine zL rfl ((hx.keep hK).c1) ?_
   refine zI rfl (rfl) ((by omega : z < next.length)) ?_
   refine zL rfl (hcell hO hz) ?_
   refine zC rfl (hb30) ?_
   repeat first|refine zP rfl ?_|refine zK rfl ?_
   exact o_nil ⟨⟨rfl,rfl,rfl,rfl,trivial⟩,rfl⟩
 subst hw
 refine cond hS rfl (fun hT=>?_) (fun hF=>?_)
 ·rw [hT] at hb30
  have hneg:=of_decide_eq_true hb30
  have hdead : ¬ Live L.toNat next fin s:=fun hl=>by
   have h0:=hl.pos
   obtain ⟨z,rfl⟩:=Int.eq_ofNat_of_zero_le h0
   rw [clsOf_nat] at hneg
   have:=(hC.live z (by have:=hs.s2; omega)).2 hl
   omega
  obtain ⟨hcn,hal⟩:=none_canon hL0 hdead
  have hoN2:=hoN.keep hK hNc
  refine wp_seq (seq_cut [(2,Vp N)] (fun w'=>RowKit.Below w.heap.size w w' ∧ OwnB w' N 25 [Vi L,Vi (-1),.slice none 0 0,.slice none 0 0]) tab_ok hS ?_ (fun a w3 hS hw=>?_))
  ·repeat first|refine zP rfl ?_|refine zK rfl ?_
   refine zL rfl ((hx.keep hK).c0) ?_
   refine zF rfl (en_none) (none_any L _) ?_
   rintro e w3 ⟨rfl,h3⟩
   refine ⟨_,rfl,?_⟩
   have hoN3:=hoN2.keep h3 hoN2.lt
   have hg:=grown_sets N [Vi L,Vi (-1),.slice none 0 0,.slice none 0 0] 0 w3
   refine o_step0 rfl rfl (And.intro rfl (And.intro rfl (And.intro (own_cells4 hoN3) ?_)))
   exact o_nil ⟨⟨rfl,trivial⟩,below_of_grown (below_trans (below_trans hB hK) h3) hg (fun k hk=>by cases hk; exact hNw),hoN3.sets rfl⟩
  obtain ⟨hBf,hoF⟩:=hw
  refine wp_ret ?_
  repeat (first | refine then_ret ?_ | refine block_ret ?_)
  refine retc1 tab_ok hS rfl rfl rfl rfl (o:=0) (vs:=[Vi L,Vi (-1),.slice none 0 0,.slice none 0 0]) ⟨hoF.cell (i:=0) rfl,hoF.cell (i:=1) rfl,hoF.cell (i:=2) rfl,hoF.cell (i:=3) rfl,trivial⟩ rfl ⟨-1,_,_,[],[],rfl,?_,hBf,hcn,hal,Nat.zero_le _⟩
  exact ⟨World.ownsRow_nil _ _ _ _,[],rfl,World.ownsRow_nil _ _ _ _,fun i hi=>by simp at hi⟩
 rw [hF] at hb30
 have hcs0 : 0 ≤ clsOf cls s:=by have:=of_decide_eq_false hb30; omega
 have hsp : 0 ≤ s:=by
  refine Int.not_lt.1 fun h=>?_
  rw [clsOf_neg h] at hcs0; omega
 obtain ⟨z,rfl⟩:=Int.eq_ofNat_of_zero_le hsp
 have hz : z < cls.length:=by have:=hs.s2; omega
 refine wp_skip ?_
 refine wp_seq (seq_cut [(1,Vp M),(2,Vp N),(3,Vs O next.length cO),(4,Vi 0)] (· = w2) tab_ok hS ?_ (fun a w3 hS hw=>?_))
 ·repeat first|refine zP rfl ?_|refine zK rfl ?_
  exact o_nil ⟨⟨rfl,rfl,rfl,rfl,trivial⟩,rfl⟩
 subst hw
 refine wp_seq (cut (F:=fun a' w'=>w' = w3 ∧ St Tryz.f47.ntmps a' [(1,Vp M),(2,Vp N),(3,Vs O next.length cO),(4,Vi m)]) ?_ ?_)
 ·refine wp_seq (seq_cut [(1,Vp M),(2,Vp N),(3,Vs O next.length cO),(4,Vi 0),(5,Vi 0)] (· = w3) tab_ok hS ?_ (fun a w4 hS hw=>?_))
  ·repeat first|refine zP rfl ?_|refine zK rfl ?_
   exact o_nil ⟨⟨rfl,rfl,rfl,rfl,rfl,trivial⟩,rfl⟩
  subst hw
  refine wp_block (loop0 hS (fun g E wr=>∃ (i : Nat) (ct : Int),i ≤ next.length ∧ g = next.length - i ∧ E = [(1,Vp M),(2,Vp N),(3,Vs O next.length cO),(4,Vi ct),(5,Vi i)] ∧ wr = w4 ∧ MaxI cls i ct)
   next.length ⟨0,0,Nat.zero_le _,rfl,rfl,rfl,⟨Int.le_refl _,fun j hj=>by omega,.inl rfl⟩⟩ ?_)
  rintro g E wr a1 ⟨i,ct,hi,rfl,rfl,rfl,hI⟩ hS
  refine wp_seq (wp_seq (seq_cut [(1,Vp M),(2,Vp N),(3,Vs O next.length cO),(4,Vi ct),(5,Vi i),(37,.bool (decide ((i : Int) < next.length)))] (· = wr) tab_ok hS ?_ (fun a w5 hS hw=>?_)))
  ·repeat first|refine zP rfl ?_|refine zK rfl ?_
   refine zC rfl (rfl) ?_
   exact o_nil ⟨⟨rfl,rfl,rfl,rfl,rfl,rfl,trivial⟩,rfl⟩
  subst hw
  refine cond hS rfl (fun hT=>?_) (fun hF=>?_)
  case refine_2=>
   refine wp_exit ?_
   repeat (first | refine then_exit ?_ | refine block_exit ?_ | refine block_other rfl ?_)
   obtain rfl : i = next.length:=by have:=of_decide_eq_false hF; omega
   obtain rfl:=hI.end hC
   exact ⟨rfl,hS.sub ⟨rfl,rfl,rfl,rfl,trivial⟩⟩
  have hlt : i < next.length:=by have:=of_decide_eq_true hT; omega
  have hic : i < cls.length:=by omega
  have hr:=hcrng cls[i] (List.getElem_mem hic)
  refine wp_skip ?_
  refine wp_seq (wp_block ?_)
  refine seq_cut [(1,Vp M),(2,Vp N),(3,Vs O next.length cO),(4,Vi (if cls[i] + 1 > ct then cls[i] + 1 else ct)),(5,Vi i)] (· = w5) tab_ok hS ?_ (fun a w6 hS hw=>?_)
  ·repeat first|refine zP rfl ?_|refine zK rfl ?_
   refine zI rfl (rfl) (hlt) ?_
   refine zL rfl (hcell hO hic) ?_
   refine zN rfl (wrap64 (y:=cls[i] + 1) rfl (by omega) (by omega)) ?_
   refine zN rfl (rfl) ?_
   repeat first|refine zP rfl ?_|refine zK rfl ?_
   exact o_nil ⟨⟨rfl,rfl,rfl,rfl,rfl,trivial⟩,rfl⟩
  subst hw
  refine block_normal ?_
  refine then_normal ?_
  refine seq_cut [(1,Vp M),(2,Vp N),(3,Vs O next.length cO),(4,Vi (if cls[i] + 1 > ct then cls[i] + 1 else ct)),(5,Vi (i + 1 : Nat))] (· = w6) tab_ok hS ?_ (fun a w7 hS hw=>?_)
  ·repeat first|refine zP rfl ?_|refine zK rfl ?_
   refine zN rfl (wrap_succ (by omega)) ?_
   repeat first|refine zP rfl ?_|refine zK rfl ?_
   exact o_nil ⟨⟨rfl,rfl,rfl,rfl,rfl,trivial⟩,rfl⟩
  subst hw
  exact ⟨next.length - (i + 1),_,by omega,⟨i + 1,_,hlt,rfl,rfl,rfl,hI.step (getD_lt hic)⟩,hS⟩
 rintro a w4 ⟨rfl,hS⟩
 have hO':=hO
 rw [← hcl] at hO'
 rw [← hcl] at hS
 refine wp_seq (shrunk_r9 (base:=wc.heap.size) (hx.keep hK) hO' hz hK.size (by omega) (by rfl) hS (fun x a w5 hS h5=>?_))
 rw [hcl] at hS
 obtain ⟨P,Q,K⟩:=x
 obtain ⟨hw5,hR9⟩:=h5
 dsimp only at hS hR9
 have hK5:=below_trans hK hw5
 replace hO:=hO.kept (grown_below hw5) (none_or _)
 clear hw5 hO'
 have hKc : wc.heap.size ≤ K:=hR9.b
 refine wp_seq (cut (F:=fun a' w'=>∃ (vs : List Value) (sn : List (List Int)) (sf : List Bool),St Tryz.f47.ntmps a' [(1,Vp M),(2,Vp N),(6,Vp K)] ∧ RowKit.Below wc.heap.size wc w' ∧ OwnB w' K 25 [Vi L,Vi cls[z],Vs P m m,Vs Q m m] ∧ ShI wc.heap.size w' P Q m cls next fin L.toNat next.length vs sn sf) ?_ ?_)
 ·refine wp_seq (seq_cut [(1,Vp M),(2,Vp N),(3,Vs O next.length cO),(6,Vp K),(7,Vi 0)] (· = w5) tab_ok hS ?_ (fun a w6 hS hw=>?_))
  ·repeat first|refine zP rfl ?_|refine zK rfl ?_
   exact o_nil ⟨⟨rfl,rfl,rfl,rfl,rfl,trivial⟩,rfl⟩
  subst hw
  have hI0 : ShI wc.heap.size w6 P Q m cls next fin L.toNat 0 (List.replicate m (.slice none 0 0)) (List.replicate m []) (List.replicate m false):=
   ⟨hR9.p,by simpa using hR9.q,by simp,by simp,by simp,fun v hv ⟨j,hj,_⟩=>by omega,fun v hv _=>by simp [hv]⟩
  refine wp_block (loop0 hS (fun g E wr=>∃ (i : Nat) (vs : List Value) (sn : List (List Int)) (sf : List Bool),i ≤ next.length ∧ g = next.length - i ∧ E = [(1,Vp M),(2,Vp N),(3,Vs O next.length cO),(6,Vp K),(7,Vi i)] ∧ RowKit.Below wc.heap.size wc wr ∧
    wr.ownsRow wc.heap.size 3 1 (Vs O next.length cO) next.length (ints cls) ∧ OwnB wr K 25 [Vi L,Vi cls[z],Vs P m m,Vs Q m m] ∧ ShI wc.heap.size wr P Q m cls next fin L.toNat i vs sn sf)
   next.length ⟨0,_,_,_,Nat.zero_le _,rfl,rfl,hK5,hO,hR9.k,hI0⟩ ?_)
  clear hI0 hR9 hO hK5 hS hK
  rintro g E wr a1 ⟨i,vs,sn,sf,hi,rfl,rfl,hK,hO,hk,hI⟩ hS
  refine wp_seq (wp_seq (seq_cut [(1,Vp M),(2,Vp N),(3,Vs O next.length cO),(6,Vp K),(7,Vi i),(62,.bool (decide ((i : Int) < next.length)))] (· = wr) tab_ok hS ?_ (fun a w7 hS hw=>?_)))
  ·repeat first|refine zP rfl ?_|refine zK rfl ?_
   refine zC rfl (rfl) ?_
   exact o_nil ⟨⟨rfl,rfl,rfl,rfl,rfl,rfl,trivial⟩,rfl⟩
  subst hw
  refine cond hS rfl (fun hT=>?_) (fun hF=>?_)
  case refine_2=>
   refine wp_exit ?_
   repeat (first | refine then_exit ?_ | refine block_exit ?_ | refine block_other rfl ?_)
   obtain rfl : i = next.length:=by have:=of_decide_eq_false hF; omega
   exact ⟨vs,sn,sf,hS.sub ⟨rfl,rfl,rfl,trivial⟩,hK,hk,hI⟩
  have hlt : i < next.length:=by have:=of_decide_eq_true hT; omega
  have hic : i < cls.length:=by omega
  obtain ⟨c,hc⟩ : ∃ c,cls[i] = c:=⟨_,rfl⟩
  have hcd : cls.getD i 0 = c:=by rw [getD_lt hic,hc]
  have hcr:=hcrng cls[i] (List.getElem_mem hic)
  rw [hc] at hcr
  refine wp_skip ?_
  refine wp_seq (cut (F:=fun a' w'=>∃ (vs : List Value) (sn : List (List Int)) (sf : List Bool),St Tryz.f47.ntmps a' [(1,Vp M),(2,Vp N),(3,Vs O next.length cO),(6,Vp K),(7,Vi i)] ∧ RowKit.Below wc.heap.size wc w' ∧
    w'.ownsRow wc.heap.size 3 1 (Vs O next.length cO) next.length (ints cls) ∧ OwnB w' K 25 [Vi L,Vi cls[z],Vs P m m,Vs Q m m] ∧ ShI wc.heap.size w' P Q m cls next fin L.toNat (i + 1) vs sn sf) ?_ ?_)
  ·refine wp_block ?_
   refine wp_seq (seq_cut [(1,Vp M),(2,Vp N),(3,Vs O next.length cO),(6,Vp K),(7,Vi i),(8,Vi c)] (· = w7) tab_ok hS ?_ (fun a w8 hS hw=>?_))
   ·repeat first|refine zP rfl ?_|refine zK rfl ?_
    refine zI rfl (rfl) (hlt) ?_
    refine zL rfl (hc ▸ hcell hO hic) ?_
    repeat first|refine zP rfl ?_|refine zK rfl ?_
    exact o_nil ⟨⟨rfl,rfl,rfl,rfl,rfl,rfl,trivial⟩,rfl⟩
   subst hw
   have hcase : (cls.getD i 0 < 0 ∨ ∃ v : Nat,v < m ∧ cls.getD i 0 = (v : Int) ∧ ∃ j,j < i ∧ cls.getD j 0 = (v : Int)) ∨ ∃ v : Nat,v < m ∧ c = (v : Int) ∧ ∀ j,j < i → cls.getD j 0 ≠ (v : Int):=by
    by_cases h0 : c < 0
    ·exact .inl (.inl (by rw [hcd]; exact h0))
    ·obtain ⟨v,rfl⟩:=Int.eq_ofNat_of_zero_le (Int.not_lt.1 h0)
     by_cases hex : ∃ j,j < i ∧ cls.getD j 0 = (v : Int)
     ·exact .inl (.inr ⟨v,by omega,hcd,hex⟩)
     ·exact .inr ⟨v,by omega,rfl,fun j hj e=>hex ⟨j,hj,e⟩⟩
   rcases hcase with hskip | ⟨v,hv,rfl,hnew⟩
   ·refine wp_seq (wp_seq (seq_cut [(1,Vp M),(2,Vp N),(3,Vs O next.length cO),(6,Vp K),(7,Vi i),(78,.bool true)] (· = w8) tab_ok hS ?_ (fun a w9 hS hw=>?_)))
    ·repeat first|refine zP rfl ?_|refine zK rfl ?_
     cases e1 : decide (c < 0)
     case true=>
      refine zC rfl (e1) ?_
      repeat first|refine zP rfl ?_|refine zK rfl ?_
      exact o_nil ⟨⟨rfl,rfl,rfl,rfl,rfl,rfl,trivial⟩,rfl⟩
     case false=>
      have h0:=of_decide_eq_false e1
      rcases hskip with h1 | ⟨v,hv,hcv,hex⟩
      ·rw [hcd] at h1; exact (h0 h1).elim
      ·rw [hcd] at hcv
       subst hcv
       obtain ⟨_,g,cg,hg1,hg2⟩:=hI.done v hv hex
       have hcellP : w8.cell? ⟨P,0 + v,none⟩ = some (Vs g L.toNat cg):=by
        rw [Nat.zero_add,World.ownsRow.cellAt hI.p v (by omega)]; exact hg1
       refine zC rfl (e1) ?_
       repeat first|refine zP rfl ?_|refine zK rfl ?_
       refine zL rfl (hk.cell (i:=2) rfl) ?_
       repeat first|refine zP rfl ?_|refine zK rfl ?_
       refine zI rfl (rfl) (hv) ?_
       refine zL rfl (hcellP) ?_
       repeat first|refine zP rfl ?_|refine zK rfl ?_
       exact o_nil ⟨⟨rfl,rfl,rfl,rfl,rfl,rfl,trivial⟩,rfl⟩
    subst hw
    refine cond hS rfl (fun _=>?_) (fun hF=>by cases hF)
    refine wp_exit ?_
    repeat (first | refine then_exit ?_ | refine block_exit ?_ | refine block_other rfl ?_)
    exact ⟨vs,sn,sf,hS.sub ⟨rfl,rfl,rfl,rfl,rfl,trivial⟩,hK,hO,hk,hI.skip hskip⟩
   have hnil:=hI.todo v hv hnew
   have hcellP : w8.cell? ⟨P,0 + v,none⟩ = some (.slice none 0 0):=by
    rw [Nat.zero_add,World.ownsRow.cellAt hI.p v (by omega)]; exact hnil
   refine wp_seq (wp_seq (seq_cut [(1,Vp M),(2,Vp N),(3,Vs O next.length cO),(6,Vp K),(7,Vi i),(8,Vi v),(78,.bool false)] (· = w8) tab_ok hS ?_ (fun a w9 hS hw=>?_)))
   ·have h0 : ¬ (v : Int) < 0:=by omega
    repeat first|refine zP rfl ?_|refine zK rfl ?_
    refine zC rfl (decide_eq_false h0) ?_
    repeat first|refine zP rfl ?_|refine zK rfl ?_
    refine zL rfl (hk.cell (i:=2) rfl) ?_
    repeat first|refine zP rfl ?_|refine zK rfl ?_
    refine zI rfl (rfl) (hv) ?_
    refine zL rfl (hcellP) ?_
    repeat first|refine zP rfl ?_|refine zK rfl ?_
    exact o_nil ⟨⟨rfl,rfl,rfl,rfl,rfl,rfl,rfl,trivial⟩,rfl⟩
   subst hw
   refine cond hS rfl (fun hT=>by cases hT) (fun _=>?_)
   refine wp_skip ?_
   obtain ⟨Ln,hLn⟩ : ∃ Ln : Nat,L = (Ln : Int):=⟨L.toNat,by omega⟩
   obtain ⟨G,hG⟩ : ∃ G,G = w9.heap.size:=⟨_,rfl⟩
   refine wp_seq (seq_cut [(1,Vp M),(2,Vp N),(3,Vs O next.length cO),(6,Vp K),(7,Vi i),(8,Vi v),(9,Vs G L.toNat L.toNat)] (· = w9.alloc (.cells (madeCells #[Vi 0] L.toNat) 3)) tab_ok hS ?_ (fun a w10 hS hw=>?_))
   ·subst hG
    repeat first|refine zP rfl ?_|refine zK rfl ?_
    refine zL rfl ((hx.keep hK).c0) ?_
    rw [hLn,Int.toNat_natCast]
    refine zM (Ln) rfl rfl rfl rfl rfl ((by show 8 * _ ≤ _; omega)) ((by omega)) ?_
    repeat first|refine zP rfl ?_|refine zK rfl ?_
    exact o_nil ⟨⟨rfl,rfl,rfl,rfl,rfl,rfl,rfl,trivial⟩,rfl⟩
   have hown:=own_makeG w9 w9.heap.size 3 L.toNat (Vi 0) (Nat.le_refl _) (by omega)
   have hb10:=below_alloc w9 (.cells (madeCells #[Vi 0] L.toNat) 3)
   rw [← hw,← hG] at hown
   rw [← hw,← hG] at hb10
   have hown : w10.ownsRow G 3 1 (Vs G L.toNat L.toNat) L.toNat (ints (List.replicate L.toNat 0)):=by simpa using hown
   clear hw
   refine wp_seq (cut (F:=fun a' w'=>∃ row : List Int,St Tryz.f47.ntmps a' [(1,Vp M),(2,Vp N),(3,Vs O next.length cO),(6,Vp K),(7,Vi i),(8,Vi v),(9,Vs G L.toNat L.toNat)] ∧ RowKit.Below G w9 w' ∧
     w'.ownsRow G 3 1 (Vs G L.toNat L.toNat) L.toNat (ints row) ∧ row = (List.range L.toNat).map (fun k=>clsOf cls (tgtM next i k))) ?_ ?_)
   ·have hrl : next[i].length = L.toNat:=by have:=(hs'.rows i hlt).1; omega
    have hrv:=(hs'.rows i hlt).2
    have hGs : G ≤ w10.heap.size:=by rw [hG]; exact hb10.size
    refine wp_seq (seq_cut [(1,Vp M),(2,Vp N),(3,Vs O next.length cO),(6,Vp K),(7,Vi i),(8,Vi v),(9,Vs G L.toNat L.toNat),(10,Vi 0)] (· = w10) tab_ok hS ?_ (fun a w11 hS hw=>?_))
    ·repeat first|refine zP rfl ?_|refine zK rfl ?_
     exact o_nil ⟨⟨rfl,rfl,rfl,rfl,rfl,rfl,rfl,rfl,trivial⟩,rfl⟩
    subst hw
    refine wp_block (loop0 hS (fun g E wr=>∃ (k : Nat) (row : List Int),k ≤ L.toNat ∧ g = L.toNat - k ∧ E = [(1,Vp M),(2,Vp N),(3,Vs O next.length cO),(6,Vp K),(7,Vi i),(8,Vi v),(9,Vs G L.toNat L.toNat),(10,Vi k)] ∧
      RowKit.Below w9.heap.size w9 wr ∧ wr.ownsRow G 3 1 (Vs G L.toNat L.toNat) L.toNat (ints row) ∧ row.length = L.toNat ∧ ∀ c,c < k → row.getD c 0 = clsOf cls (tgtM next i c))
     L.toNat ⟨0,_,Nat.zero_le _,rfl,rfl,hG ▸ hb10,hown,by simp,fun c hc=>by omega⟩ ?_)
    clear hb10 hown hGs hS
    rintro g E wr a1 ⟨k,row,hk',rfl,rfl,hb,hown,hlen,hrow⟩ hS
    refine wp_seq (wp_seq (seq_cut [(1,Vp M),(2,Vp N),(3,Vs O next.length cO),(6,Vp K),(7,Vi i),(8,Vi v),(9,Vs G L.toNat L.toNat),(10,Vi k),(85,.bool (decide ((k : Int) < L)))] (· = wr) tab_ok hS ?_ (fun a w12 hS hw=>?_)))
    ·repeat first|refine zP rfl ?_|refine zK rfl ?_
     refine zL rfl ((hx.keep (below_trans hK hb)).c0) ?_
     refine zC rfl (rfl) ?_
     exact o_nil ⟨⟨rfl,rfl,rfl,rfl,rfl,rfl,rfl,rfl,rfl,trivial⟩,rfl⟩
    subst hw
    refine cond hS rfl (fun hT=>?_) (fun hF=>?_)
    case refine_2=>
     refine wp_exit ?_
     repeat (first | refine then_exit ?_ | refine block_exit ?_ | refine block_other rfl ?_)
     obtain rfl : k = L.toNat:=by have:=of_decide_eq_false hF; omega
     refine ⟨row,hS.sub ⟨rfl,rfl,rfl,rfl,rfl,rfl,rfl,trivial⟩,hG ▸ hb,hown,?_⟩
     refine List.ext_getElem (by simp [hlen]) fun c h1 h2=>?_
     have:=hrow c (by omega)
     rw [getD_lt h1] at this
     simp [this]
    have hkL : k < L.toNat:=by have:=of_decide_eq_true hT; omega
    have hkr : k < next[i].length:=by omega
    obtain ⟨t,ht⟩ : ∃ t,next[i][k] = t:=⟨_,rfl⟩
    have htr:=hrv k hkr
    rw [ht] at htr
    have htg : tgtM next i k = t:=by rw [tgt_get hlt hkr,ht]
    refine wp_skip ?_
    refine wp_seq (wp_block ?_)
    refine wp_seq (seq_cut [(1,Vp M),(2,Vp N),(3,Vs O next.length cO),(6,Vp K),(7,Vi i),(8,Vi v),(9,Vs G L.toNat L.toNat),(10,Vi k)] (· = w12.setCell ⟨G,0 + k,none⟩ (Vi (-1))) tab_ok hS ?_ (fun a w13 hS hw=>?_))
    ·repeat first|refine zP rfl ?_|refine zK rfl ?_
     refine zI rfl (rfl) (hkL) ?_
     refine zS rfl rfl (own_cell hown (j:=k) (by omega) hlen.symm) (own_frozen hown k) ?_
     exact o_nil ⟨⟨rfl,rfl,rfl,rfl,rfl,rfl,rfl,rfl,trivial⟩,rfl⟩
    rw [Nat.zero_add] at hw
    have hown13:=own_stored hown k (-1)
    have hb13:=below_of_grown hb (hown.stored k (Vi (-1))).2 (fun q hq=>by cases hq; omega)
    rw [← hw] at hown13 hb13
    clear hw hown hb
    have hlen13 : (row.set k (-1)).length = L.toNat:=by simp [hlen]
    have hrow13 : ∀ c,c < k → (row.set k (-1)).getD c 0 = clsOf cls (tgtM next i c):=fun c hc=>by
     rw [← hrow c hc]
     simp [List.getD_eq_getElem?_getD,List.getElem?_set_ne (show k ≠ c by omega)]
    have hat13 : (row.set k (-1)).getD k 0 = -1:=by simp [List.getD_eq_getElem?_getD,hlen,hkL]
    generalize row.set k (-1) = r2 at *
    refine wp_seq (seq_cut [(1,Vp M),(2,Vp N),(3,Vs O next.length cO),(6,Vp K),(7,Vi i),(8,Vi v),(9,Vs G L.toNat L.toNat),(10,Vi k),(99,.bool (decide (0 ≤ t)))] (· = w13) tab_ok hS ?_ (fun a w14 hS hw=>?_))
    ·obtain ⟨bn,on,cn,hvn,ar,cr,hc1,hc2⟩:=(hm.keep (below_trans hK hb13)).cell hlt
     obtain ⟨br,orr,rfl,hc3⟩:=hc2 k hkr
     subst hvn
     rw [ht] at hc3
     repeat first|refine zP rfl ?_|refine zK rfl ?_
     refine zL rfl ((hx.keep (below_trans hK hb13)).c2) ?_
     repeat first|refine zP rfl ?_|refine zK rfl ?_
     refine zI rfl (rfl) (hlt) ?_
     refine zL rfl (hc1) ?_
     repeat first|refine zP rfl ?_|refine zK rfl ?_
     refine zI rfl (rfl) (hkr) ?_
     refine zL rfl (hc3) ?_
     refine zC rfl (rfl) ?_
     exact o_nil ⟨⟨rfl,rfl,rfl,rfl,rfl,rfl,rfl,rfl,rfl,trivial⟩,rfl⟩
    subst hw
    refine cut (F:=fun a' w'=>∃ row : List Int,St Tryz.f47.ntmps a' [(1,Vp M),(2,Vp N),(3,Vs O next.length cO),(6,Vp K),(7,Vi i),(8,Vi v),(9,Vs G L.toNat L.toNat),(10,Vi k)] ∧
      RowKit.Below w9.heap.size w9 w' ∧ w'.ownsRow G 3 1 (Vs G L.toNat L.toNat) L.toNat (ints row) ∧ row.length = L.toNat ∧ ∀ c,c < k + 1 → row.getD c 0 = clsOf cls (tgtM next i c)) ?_ ?_
    ·refine cond hS rfl (fun hT=>?_) (fun hF=>?_)
     ·obtain ⟨tn,rfl⟩:=Int.eq_ofNat_of_zero_le (of_decide_eq_true hT)
      have htc : tn < cls.length:=by omega
      refine seq_cut [(1,Vp M),(2,Vp N),(3,Vs O next.length cO),(6,Vp K),(7,Vi i),(8,Vi v),(9,Vs G L.toNat L.toNat),(10,Vi k)] (· = w14.setCell ⟨G,0 + k,none⟩ (Vi cls[tn])) tab_ok hS ?_ (fun a w15 hS hw=>?_)
      ·obtain ⟨bn,on,cn,hvn,ar,cr,hc1,hc2⟩:=(hm.keep (below_trans hK hb13)).cell hlt
       obtain ⟨br,orr,rfl,hc3⟩:=hc2 k hkr
       subst hvn
       rw [ht] at hc3
       repeat first|refine zP rfl ?_|refine zK rfl ?_
       refine zL rfl ((hx.keep (below_trans hK hb13)).c2) ?_
       repeat first|refine zP rfl ?_|refine zK rfl ?_
       refine zI rfl (rfl) (hlt) ?_
       refine zL rfl (hc1) ?_
       repeat first|refine zP rfl ?_|refine zK rfl ?_
       refine zI rfl (rfl) (hkr) ?_
       refine zL rfl (hc3) ?_
       refine zI rfl (rfl) ((by omega : tn < next.length)) ?_
       refine zL rfl (hcell (hO.kept (grown_below hb13) (none_or _)) htc) ?_
       refine zI rfl (rfl) (hkL) ?_
       refine zS rfl rfl (own_cell hown13 (j:=k) (by omega) hlen13.symm) (own_frozen hown13 k) ?_
       exact o_nil ⟨⟨rfl,rfl,rfl,rfl,rfl,rfl,rfl,rfl,trivial⟩,rfl⟩
      rw [Nat.zero_add] at hw
      have hown15:=own_stored hown13 k cls[tn]
      have hb15:=below_of_grown hb13 (hown13.stored k (Vi cls[tn])).2 (fun q hq=>by cases hq; omega)
      rw [← hw] at hown15 hb15
      refine ⟨_,hS,hb15,hown15,by simp [hlen13],fun c hc=>?_⟩
      by_cases hck : c = k
      ·subst hck
       rw [htg,clsOf_nat,getD_lt htc]
       simp [List.getD_eq_getElem?_getD,hlen13,hkL]
      ·rw [← hrow13 c (by omega)]
       simp [List.getD_eq_getElem?_getD,List.getElem?_set_ne (fun e=>hck e.symm)]
     ·refine wp_skip ⟨r2,hS.sub ⟨rfl,rfl,rfl,rfl,rfl,rfl,rfl,rfl,trivial⟩,hb13,hown13,hlen13,fun c hc=>?_⟩
      by_cases hck : c = k
      ·subst hck
       rw [hat13,htg,clsOf_neg (by have:=of_decide_eq_false hF; omega)]
      ·exact hrow13 c (by omega)
    rintro a w15 ⟨row',hS,hb15,hown15,hlen15,hrow15⟩
    refine block_normal ?_
    refine then_normal ?_
    refine seq_cut [(1,Vp M),(2,Vp N),(3,Vs O next.length cO),(6,Vp K),(7,Vi i),(8,Vi v),(9,Vs G L.toNat L.toNat),(10,Vi (k + 1 : Nat))] (· = w15) tab_ok hS ?_ (fun a w16 hS hw=>?_)
    ·repeat first|refine zP rfl ?_|refine zK rfl ?_
     refine zN rfl (wrap_succ (by omega)) ?_
     repeat first|refine zP rfl ?_|refine zK rfl ?_
     exact o_nil ⟨⟨rfl,rfl,rfl,rfl,rfl,rfl,rfl,rfl,trivial⟩,rfl⟩
    subst hw
    exact ⟨L.toNat - (k + 1),_,by omega,⟨k + 1,row',hkL,rfl,rfl,hb15,hown15,hlen15,hrow15⟩,hS⟩
   rintro a w11 ⟨row,hS,hb11,hown11,hrow⟩
   rw [hG] at hb11
   have hK11:=below_trans hK hb11
   have hI11:=hI.kept (grown_below hb11)
   have hk11:=hk.keep hb11 hk.lt
   have hO11:=hO.kept (grown_below hb11) (none_or _)
   have hown11 : w11.ownsRow wc.heap.size 3 1 (Vs G L.toNat L.toNat) L.toNat (ints row):=own_mono hown11 (by rw [hG]; exact hK.size)
   clear hb11 hK hI hk hO hb10 hown hG
   have hPlt:=hI11.p.lt P rfl
   have hQlt:=hI11.q.lt Q rfl
   have hfi : i < fin.length:=by have:=hs.fin; omega
   have hfd : fin.getD i false = fin[i]:=getD_lt hfi
   refine wp_seq (seq_cut [(1,Vp M),(2,Vp N),(3,Vs O next.length cO),(6,Vp K),(7,Vi i),(8,Vi v)] (· = w11.setCell ⟨P,0 + v,none⟩ (Vs G L.toNat L.toNat)) tab_ok hS ?_ (fun a w12 hS hw=>?_))
   ·have hc11 : w11.cell? ⟨P,0 + v,none⟩ = some (vs[v]'(by have:=hI11.lv; omega)):=by
     rw [Nat.zero_add,World.ownsRow.cellAt hI11.p v (by omega)]
     exact List.getElem?_eq_getElem _
    have hf11 : w11.frozen? ⟨P,0 + v,none⟩ = false:=by rw [Nat.zero_add]; exact hI11.p.frozenAt v
    repeat first|refine zP rfl ?_|refine zK rfl ?_
    refine zL rfl (hk11.cell (i:=2) rfl) ?_
    repeat first|refine zP rfl ?_|refine zK rfl ?_
    refine zI rfl (rfl) (hv) ?_
    refine zS rfl rfl (hc11) (hf11) ?_
    exact o_nil ⟨⟨rfl,rfl,rfl,rfl,rfl,rfl,trivial⟩,rfl⟩
   have hg12 : w11.grownBy w12 (some P):=by rw [hw,Nat.zero_add]; exact (World.ownsRow.stored hI11.p v _).2
   have hK12:=below_of_grown hK11 hg12 (fun q hq=>by cases hq; exact hPlt.1)
   have hO12:=hO11.kept hg12 (own_ne hI11.p hO11 (by decide))
   have hk12:=hk11.kept hg12 (own_neB hI11.p hk11 (by decide))
   have hQ12:=hI11.q.kept hg12 (own_ne hI11.p hI11.q (by decide))
   refine any_cut 9 [(1,Vp M),(2,Vp N),(3,Vs O next.length cO),(6,Vp K),(7,Vi i)] (· = w12.drew.setCell ⟨Q,0 + v,none⟩ (.bool fin[i])) mixed hS ?_ (fun a w13 hS hw13=>?_)
   ·have hy : RowKit.Below w12.drew.heap.size w12.drew w12.drew:=RowKit.Below.refl _ _
    obtain ⟨be,oe,ce,hve,hce⟩:=(hm.keep hK12).end hfi
    subst hve
    have hc12 : w12.cell? ⟨Q,0 + v,none⟩ = some (.bool (sf[v]'(by have:=hI11.lf; omega))):=by
     have hvs : v < sf.length:=by have:=hI11.lf; omega
     rw [Nat.zero_add,World.ownsRow.cellAt hQ12 v (by omega)]
     simp [bools,hvs]
    have hf12 : w12.frozen? ⟨Q,0 + v,none⟩ = false:=by rw [Nat.zero_add]; exact hQ12.frozenAt v
    refine yT 0 tab_ok rfl (by kernel_rfl) hy rfl (rfl) ?_
    refine yL 1 tab_ok rfl (by kernel_rfl) hy rfl rfl (hk12.cell (i:=3) rfl) ?_
    refine yT 2 tab_ok rfl (by kernel_rfl) hy rfl (rfl) ?_
    refine yT 3 tab_ok rfl (by kernel_rfl) hy rfl (rfl) ?_
    refine yL 4 tab_ok rfl (by kernel_rfl) hy rfl rfl ((hx.keep hK12).c3) ?_
    refine yT 5 tab_ok rfl (by kernel_rfl) hy rfl (rfl) ?_
    refine yT 6 tab_ok rfl (by kernel_rfl) hy rfl (Exists.intro _ (And.intro (rfl) (And.intro (hfi) rfl))) ?_
    refine yL 7 tab_ok rfl (by kernel_rfl) hy rfl rfl (hce) ?_
    refine yT 8 tab_ok rfl (by kernel_rfl) hy rfl (Exists.intro _ (And.intro (rfl) (And.intro (hv) rfl))) ?_
    refine y_one 9 (by kernel_rfl) (y_op0 9 tab_ok rfl rfl rfl ?_)
    refine And.intro rfl (And.intro rfl (And.intro ⟨_,hc12⟩ (And.intro hf12 (And.intro (.inl (by kernel_rfl)) ?_))))
    exact y_end (by kernel_rfl) ⟨rfl,rfl,rfl,rfl,rfl,trivial⟩ rfl
   have hput:=hI11.put hv hcd hrow hown11 hnew
   rw [hfd,← hw,← hw13] at hput
   have hg13 : w12.grownBy w13 (some Q):=by
    have hd:=(World.ownsRow.stored (hQ12.drew) v (.bool fin[i])).2
    rw [hw13,Nat.zero_add]
    exact ⟨hd.os,hd.tape,hd.output,hd.size,hd.block⟩
   exact ⟨_,_,_,hS,below_of_grown hK12 hg13 (fun q hq=>by cases hq; exact hQlt.1),hO12.kept hg13 (own_ne hQ12 hO12 (by decide)),hk12.kept hg13 (own_neB hQ12 hk12 (by decide)),hput⟩
  rintro a w8 ⟨vs',sn',sf',hS,hK',hO',hk',hI'⟩
  refine seq_cut [(1,Vp M),(2,Vp N),(3,Vs O next.length cO),(6,Vp K),(7,Vi (i + 1 : Nat))] (· = w8) tab_ok hS ?_ (fun a w9 hS hw=>?_)
  ·repeat first|refine zP rfl ?_|refine zK rfl ?_
   refine zN rfl (wrap_succ (by omega)) ?_
   repeat first|refine zP rfl ?_|refine zK rfl ?_
   exact o_nil ⟨⟨rfl,rfl,rfl,rfl,rfl,trivial⟩,rfl⟩
  subst hw
  exact ⟨next.length - (i + 1),_,by omega,⟨i + 1,vs',sn',sf',hlt,rfl,rfl,hK',hO',hk',hI'⟩,hS⟩
 rintro a w6 ⟨vs,sn,sf,hS,hK6,hk6,hI6⟩
 clear hK hO hR9 hK5 hS0
 obtain ⟨hsnl,hSm⟩:=hI6.end hC
 have hC' : Cls L.toNat next fin cls sn.length:=by rw [hsnl]; exact hC
 obtain ⟨hShp,hlive,hdist,hal⟩:=small_ok hs' hC' hSm hcs0
 rw [clsOf_nat,getD_lt hz] at hShp hal hcs0
 rw [Int.toNat_of_nonneg hL0] at hShp
 have hcz:=hcrng cls[z] (List.getElem_mem hz)
 have hOM : OwnM wc.heap.size w6 sn sf (Vs P m m) (Vs Q m m):=by
  refine ⟨by rw [hI6.lf]; exact hI6.q,vs,by rw [hI6.lv,hsnl],by rw [hsnl]; exact hI6.p,fun v hv=>?_⟩
  obtain ⟨j,h1,h2⟩:=hC.hit v (by omega)
  obtain ⟨_,g,cg,h5,h6⟩:=hI6.done v (by omega) ⟨j,h1,h2⟩
  have h7:=hShp.rows v hv
  refine ⟨_,h5,?_,fun x hx=>?_⟩
  ·rw [show sn.getD v [] = sn[v] by simp [List.getD_eq_getElem?_getD,hv]] at h6
   rw [show sn[v].length = L.toNat by have:=h7.1; omega]
   exact h6
  ·obtain ⟨c,hc,rfl⟩:=List.mem_iff_getElem.1 hx
   have:=h7.2 c hc
   exact ⟨by omega,by omega⟩
 have hMa:=hOM.ma hm.L (show I64 cls[z] from ⟨by omega,by omega⟩)
 have hshp' : Shape (L.toNat : Int) cls[z] sn sf:=by rw [Int.toNat_of_nonneg hL0]; exact hShp
 refine wp_seq (seq_cutx (α:=Value × Value) (fun x=>[(1,Vp M),(2,Vp N),(6,Vp K),(11,x.1),(12,x.2)]) (fun x w'=>RowKit.Below w6.heap.size w6 w' ∧ TwoRows w6.heap.size w' x.1 x.2 (foundM cls[z] sn L.toNat).rows (foundM cls[z] sn L.toNat).place) tab_ok hS ?_ (fun x a w7 hS h7=>?_))
 ·refine zA ([Vi L,Vi cls[z],Vs P m m,Vs Q m m]) rfl rfl (⟨hk6.cell (i:=0) rfl,hk6.cell (i:=1) rfl,hk6.cell (i:=2) rfl,hk6.cell (i:=3) rfl,trivial⟩) ?_
  refine zF rfl (en_found) (found_any L cls[z] _ _ sn sf _ hMa hShp (by omega)) ?_
  rintro e w7 ⟨vr,vp,rfl,h1,h2⟩
  refine ⟨_,rfl,?_⟩
  repeat first|refine zP rfl ?_|refine zK rfl ?_
  exact o_nil ⟨(vr,vp),⟨rfl,rfl,rfl,rfl,rfl,trivial⟩,h2,h1⟩
 obtain ⟨vr,vp⟩:=x
 obtain ⟨hb7,hT'⟩:=h7
 dsimp only at hS hT'
 have hFd:=foundM_found hShp
 obtain ⟨hcn,hal2⟩:=found_canon hShp hFd hlive hdist
 generalize foundM cls[z] sn L.toNat = f at hT' hFd hcn hal2
 have hfr0 : 0 < f.rows.length:=by
  have:=(hFd.first hcs0).1
  exact (List.getElem?_eq_some_iff.1 this).1
 rw [if_neg (by omega)] at hcn hal2
 have hplen:=hFd.inn.ok.p
 have hfcap:=hFd.inn.ok.cap
 have hrr : ∀ k (h : k < f.rows.length),∃ r : Nat,r < sn.length ∧ f.rows[k] = (r : Int):=fun k h=>by
  obtain ⟨a,b,_⟩:=hFd.inn.ok.r _ (List.getElem_mem h)
  exact ⟨f.rows[k].toNat,by omega,by omega⟩
 obtain ⟨R,cR,rfl⟩ : ∃ R cR,vr = Vs R f.rows.length cR:=by
  rcases hT'.a.2 with ⟨_,h⟩ | ⟨g,cap,cur,h,_⟩
  ·omega
  ·exact ⟨_,_,h⟩
 obtain ⟨S,cS,rfl⟩ : ∃ S cS,vp = Vs S f.place.length cS:=by
  rcases hT'.b.2 with ⟨_,h⟩ | ⟨g,cap,cur,h,_⟩
  ·omega
  ·exact ⟨_,_,h⟩
 have hK7:=below_trans hK6 hb7
 have hk7:=hk6.keep hb7 hk6.lt
 have hMa7:=hMa.keep hb7
 have hrI : ∀ x ∈ f.rows,I64 x:=fun x hx=>by
  obtain ⟨a,b,_⟩:=hFd.inn.ok.r x hx
  exact ⟨by omega,by omega⟩
 have hslR : Sl w7 (Vs R f.rows.length cR) f.rows PInt:=(sl_own (P:=PInt) (l:=f.rows) hT'.a rfl (fun i hi=>⟨_,by simp [hi],rfl,hrI _ (List.getElem_mem hi)⟩)).1
 have hpl : ∀ t : Nat,t < f.place.length → -1 ≤ f.place.getD t 0 ∧ f.place.getD t 0 < f.rows.length:=fun t ht=>by
  refine ⟨hFd.inn.low t (by omega),?_⟩
  rcases Int.lt_or_le (f.place.getD t 0) 0 with h | h
  ·omega
  ·obtain ⟨j,hj,hj2⟩:=hFd.inn.of t (by omega) h
   have:=(List.getElem?_eq_some_iff.1 hj2).1
   omega
 obtain ⟨b3,hb3⟩ : ∃ b3,b3 = w7.heap.size:=⟨_,rfl⟩
 refine wp_seq (seq_cut [(1,Vp M),(2,Vp N),(6,Vp K),(11,Vs R f.rows.length cR),(12,Vs S f.place.length cS),(13,Vp b3)] (· = (w7.alloc (.cells #[Vi 0,Vi 0,.slice none 0 0,.slice none 0 0] 25)).setCells w7.heap.size 0 [Vi L,Vi 0,.slice none 0 0,.slice none 0 0]) tab_ok hS ?_ (fun a w8 hS hw=>?_))
 ·subst hb3
  repeat first|refine zP rfl ?_|refine zK rfl ?_
  refine zL rfl ((hx.keep hK7).c0) ?_
  repeat first|refine zP rfl ?_|refine zK rfl ?_
  refine zB rfl ?_
  refine o_step0 rfl rfl (And.intro rfl (And.intro rfl (And.intro (own_cells4 (OwnB.new w7 [Vi 0,Vi 0,.slice none 0 0,.slice none 0 0] 25)) ?_)))
  exact o_nil ⟨⟨rfl,rfl,rfl,rfl,rfl,rfl,trivial⟩,rfl⟩
 obtain ⟨hb8,hC8⟩:=copy_fin (base:=w7.heap.size) (w0:=w7) (L:=L) (s:=0) (fin:=[]) (below_alloc w7 (.cells #[Vi 0,Vi 0,.slice none 0 0,.slice none 0 0] 25)) (Nat.le_refl _) (Nat.le_refl _) (OwnB.new w7 [Vi 0,Vi 0,.slice none 0 0,.slice none 0 0] 25) (World.ownsRow_nil _ _ _ _)
 rw [← hw] at hb8 hC8
 rw [← hb3] at hC8
 clear hw
 have hb3' : w7.heap.size ≤ b3:=by omega
 refine wp_seq (cut (F:=fun a' w'=>St Tryz.f47.ntmps a' [(2,Vp N),(13,Vp b3)] ∧ RowKit.Below w7.heap.size w7 w' ∧ CopyI b3 w' b3 L 0 (f.rows.map (renumM f.place sn L.toNat)) (foundFin f sf)) ?_ ?_)
 ·refine wp_seq (seq_cut [(1,Vp M),(2,Vp N),(6,Vp K),(11,Vs R f.rows.length cR),(12,Vs S f.place.length cS),(13,Vp b3),(14,Vi 0)] (· = w8) tab_ok hS ?_ (fun a w9 hS hw=>?_))
  ·repeat first|refine zP rfl ?_|refine zK rfl ?_
   exact o_nil ⟨⟨rfl,rfl,rfl,rfl,rfl,rfl,rfl,trivial⟩,rfl⟩
  subst hw
  refine wp_block (loop0 hS (fun g E wr=>∃ k : Nat,k ≤ f.rows.length ∧ g = f.rows.length - k ∧ E = [(1,Vp M),(2,Vp N),(6,Vp K),(11,Vs R f.rows.length cR),(12,Vs S f.place.length cS),(13,Vp b3),(14,Vi k)] ∧ RowKit.Below w7.heap.size w7 wr ∧ CopyI b3 wr b3 L 0 ((f.rows.take k).map (renumM f.place sn L.toNat)) ((foundFin f sf).take k))
   f.rows.length ⟨0,Nat.zero_le _,rfl,rfl,hb8,by simpa using hC8⟩ ?_)
  clear hb8 hC8 hS
  rintro g E wr a1 ⟨k,hk,rfl,rfl,hb,hCr⟩ hS
  refine wp_seq (wp_seq (seq_cut [(1,Vp M),(2,Vp N),(6,Vp K),(11,Vs R f.rows.length cR),(12,Vs S f.place.length cS),(13,Vp b3),(14,Vi k),(139,.bool (decide ((k : Int) < f.rows.length)))] (· = wr) tab_ok hS ?_ (fun a w10 hS hw=>?_)))
  ·repeat first|refine zP rfl ?_|refine zK rfl ?_
   refine zC rfl (rfl) ?_
   exact o_nil ⟨⟨rfl,rfl,rfl,rfl,rfl,rfl,rfl,rfl,trivial⟩,rfl⟩
  subst hw
  refine cond hS rfl (fun hT=>?_) (fun hF=>?_)
  case refine_2=>
   refine wp_exit ?_
   repeat (first | refine then_exit ?_ | refine block_exit ?_ | refine block_other rfl ?_)
   obtain rfl : k = f.rows.length:=by have:=of_decide_eq_false hF; omega
   rw [List.take_length,List.take_of_length_le (by simp [foundFin])] at hCr
   exact ⟨hS.sub ⟨rfl,rfl,trivial⟩,hb,hCr⟩
  have hlt : k < f.rows.length:=by have:=of_decide_eq_true hT; omega
  obtain ⟨r,hr,hrv⟩:=hrr k hlt
  obtain ⟨Ln,hLn⟩ : ∃ Ln : Nat,L = (Ln : Int):=⟨L.toNat,by omega⟩
  have hLb:=hm.L.2
  refine wp_skip ?_
  refine wp_seq (wp_block ?_)
  obtain ⟨G,hG⟩ : ∃ G,G = w10.heap.size:=⟨_,rfl⟩
  refine wp_seq (seq_cut [(1,Vp M),(2,Vp N),(6,Vp K),(11,Vs R f.rows.length cR),(12,Vs S f.place.length cS),(13,Vp b3),(14,Vi k),(15,Vs G L.toNat L.toNat)] (· = w10.alloc (.cells (madeCells #[Vi 0] L.toNat) 3)) tab_ok hS ?_ (fun a w11 hS hw=>?_))
  ·subst hG
   repeat first|refine zP rfl ?_|refine zK rfl ?_
   refine zL rfl ((hx.keep (below_trans hK7 hb)).c0) ?_
   rw [hLn,Int.toNat_natCast]
   refine zM (Ln) rfl rfl rfl rfl rfl ((by show 8 * _ ≤ _; omega)) ((by omega)) ?_
   repeat first|refine zP rfl ?_|refine zK rfl ?_
   exact o_nil ⟨⟨rfl,rfl,rfl,rfl,rfl,rfl,rfl,rfl,trivial⟩,rfl⟩
  have hown:=own_makeG w10 w10.heap.size 3 L.toNat (Vi 0) (Nat.le_refl _) (by omega)
  have hb11:=below_alloc w10 (.cells (madeCells #[Vi 0] L.toNat) 3)
  rw [← hw,← hG] at hown
  rw [← hw] at hb11
  have hown : w11.ownsRow G 3 1 (Vs G L.toNat L.toNat) L.toNat (ints (List.replicate L.toNat 0)):=by simpa using hown
  clear hw
  refine wp_seq (cut (F:=fun a' w'=>St Tryz.f47.ntmps a' [(1,Vp M),(2,Vp N),(6,Vp K),(11,Vs R f.rows.length cR),(12,Vs S f.place.length cS),(13,Vp b3),(14,Vi k),(15,Vs G L.toNat L.toNat)] ∧ RowKit.Below w10.heap.size w10 w' ∧
    w'.ownsRow G 3 1 (Vs G L.toNat L.toNat) L.toNat (ints (renumM f.place sn L.toNat f.rows[k]))) ?_ ?_)
  ·have hrow:=hShp.rows r hr
   have hrl : sn[r].length = L.toNat:=by have:=hrow.1; omega
   refine wp_seq (seq_cut [(1,Vp M),(2,Vp N),(6,Vp K),(11,Vs R f.rows.length cR),(12,Vs S f.place.length cS),(13,Vp b3),(14,Vi k),(15,Vs G L.toNat L.toNat),(16,Vi 0)] (· = w11) tab_ok hS ?_ (fun a w12 hS hw=>?_))
   ·repeat first|refine zP rfl ?_|refine zK rfl ?_
    exact o_nil ⟨⟨rfl,rfl,rfl,rfl,rfl,rfl,rfl,rfl,rfl,trivial⟩,rfl⟩
   subst hw
   refine wp_block (loop0 hS (fun g E wr=>∃ (j : Nat) (row : List Int),j ≤ L.toNat ∧ g = L.toNat - j ∧ E = [(1,Vp M),(2,Vp N),(6,Vp K),(11,Vs R f.rows.length cR),(12,Vs S f.place.length cS),(13,Vp b3),(14,Vi k),(15,Vs G L.toNat L.toNat),(16,Vi j)] ∧
     RowKit.Below w10.heap.size w10 wr ∧ wr.ownsRow G 3 1 (Vs G L.toNat L.toNat) L.toNat (ints row) ∧ row.length = L.toNat ∧ ∀ c,c < j → row.getD c 0 = plcM f.place (tgtM sn r c))
    L.toNat ⟨0,_,Nat.zero_le _,rfl,rfl,hb11,hown,by simp,fun c hc=>by omega⟩ ?_)
   clear hb11 hown hS
   rintro g E wr a1 ⟨j,row,hj',rfl,rfl,hb12,hown,hlen,hrow'⟩ hS
   have hKr:=below_trans hb hb12
   refine wp_seq (wp_seq (seq_cut [(1,Vp M),(2,Vp N),(6,Vp K),(11,Vs R f.rows.length cR),(12,Vs S f.place.length cS),(13,Vp b3),(14,Vi k),(15,Vs G L.toNat L.toNat),(16,Vi j),(148,.bool (decide ((j : Int) < L)))] (· = wr) tab_ok hS ?_ (fun a w13 hS hw=>?_)))
   ·repeat first|refine zP rfl ?_|refine zK rfl ?_
    refine zL rfl ((hx.keep (below_trans hK7 hKr)).c0) ?_
    refine zC rfl (rfl) ?_
    exact o_nil ⟨⟨rfl,rfl,rfl,rfl,rfl,rfl,rfl,rfl,rfl,rfl,trivial⟩,rfl⟩
   subst hw
   refine cond hS rfl (fun hT=>?_) (fun hF=>?_)
   case refine_2=>
    refine wp_exit ?_
    repeat (first | refine then_exit ?_ | refine block_exit ?_ | refine block_other rfl ?_)
    obtain rfl : j = L.toNat:=by have:=of_decide_eq_false hF; omega
    have he : row = renumM f.place sn L.toNat f.rows[k]:=by
     rw [hrv]
     refine List.ext_getElem (by rw [hlen,renumM_len]) fun c h1 h2=>?_
     rw [renumM_get]
     have:=hrow' c (by omega)
     rw [getD_lt h1] at this
     exact this
    rw [he] at hown
    exact ⟨hS.sub ⟨rfl,rfl,rfl,rfl,rfl,rfl,rfl,rfl,trivial⟩,hb12,hown⟩
   have hjL : j < L.toNat:=by have:=of_decide_eq_true hT; omega
   have hjr : j < sn[r].length:=by omega
   obtain ⟨t,ht⟩ : ∃ t,sn[r][j] = t:=⟨_,rfl⟩
   have htr:=hrow.2 j hjr
   rw [ht] at htr
   have htg : tgtM sn r j = t:=by rw [tgt_get hr hjr,ht]
   refine wp_skip ?_
   refine wp_seq (wp_block ?_)
   refine wp_seq (seq_cut [(1,Vp M),(2,Vp N),(6,Vp K),(11,Vs R f.rows.length cR),(12,Vs S f.place.length cS),(13,Vp b3),(14,Vi k),(15,Vs G L.toNat L.toNat),(16,Vi j)] (· = w13.setCell ⟨G,0 + j,none⟩ (Vi (-1))) tab_ok hS ?_ (fun a w14 hS hw=>?_))
   ·repeat first|refine zP rfl ?_|refine zK rfl ?_
    refine zI rfl (rfl) (hjL) ?_
    refine zS rfl rfl (own_cell hown (j:=j) (by omega) hlen.symm) (own_frozen hown j) ?_
    exact o_nil ⟨⟨rfl,rfl,rfl,rfl,rfl,rfl,rfl,rfl,rfl,trivial⟩,rfl⟩
   rw [Nat.zero_add] at hw
   have hown13:=own_stored hown j (-1)
   have hb13:=below_of_grown hb12 (hown.stored j (Vi (-1))).2 (fun q hq=>by cases hq; omega)
   rw [← hw] at hown13 hb13
   clear hw hown hb12 hKr
   have hlen13 : (row.set j (-1)).length = L.toNat:=by simp [hlen]
   have hrow13 : ∀ c,c < j → (row.set j (-1)).getD c 0 = plcM f.place (tgtM sn r c):=fun c hc=>by
    rw [← hrow' c hc]
    simp [List.getD_eq_getElem?_getD,List.getElem?_set_ne (show j ≠ c by omega)]
   have hat13 : (row.set j (-1)).getD j 0 = -1:=by simp [List.getD_eq_getElem?_getD,hlen,hjL]
   generalize row.set j (-1) = r2 at *
   have hKr:=below_trans hb hb13
   refine wp_seq (quiet_cut [(1,Vp M),(2,Vp N),(6,Vp K),(11,Vs R f.rows.length cR),(12,Vs S f.place.length cS),(13,Vp b3),(14,Vi k),(15,Vs G L.toNat L.toNat),(16,Vi j),(17,Vi t)] tab_ok mixed (by kernel_rfl) hS ?_ (fun a w15 hS hw=>?_))
   ·obtain ⟨bn,on,cn,hvn,ar,cr,hc1,hc2⟩:=(hMa7.keep hKr).cell hr
    obtain ⟨br,orr,rfl,hc3⟩:=hc2 j hjr
    rw [ht] at hc3
    have hrc:=(hslR.keep hKr (fun _ _ h=>h))
    obtain ⟨_,_,_,_,hv,r1,r2',r3,r4⟩:=hrc
    obtain ⟨u,hu,rfl,-⟩:=r4 k hlt
    cases r1 hfr0
    cases hv
    rw [hrv] at hu
    cases hvn
    repeat first|refine qP rfl ?_|refine qK rfl ?_
    refine qL rfl ((hk7.keep hKr hk7.lt).cell (i:=2) rfl) ?_
    repeat first|refine qP rfl ?_|refine qK rfl ?_
    refine qI rfl (rfl) (hlt) ?_
    refine qL rfl (hu) ?_
    refine qI rfl (rfl) (hr) ?_
    refine qL rfl (hc1) ?_
    repeat first|refine qP rfl ?_|refine qK rfl ?_
    refine qI rfl (rfl) (hjr) ?_
    refine qL rfl (hc3) ?_
    repeat first|refine qP rfl ?_|refine qK rfl ?_
    exact q_nil ⟨rfl,rfl,rfl,rfl,rfl,rfl,rfl,rfl,rfl,rfl,trivial⟩
   have hb15:=below_trans hb13 hw
   have hown15:=hown13.kept (grown_below hw) (none_or _)
   clear hw hown13 hb13 hKr
   have hKr:=below_trans hb hb15
   refine wp_seq (seq_cut [(1,Vp M),(2,Vp N),(6,Vp K),(11,Vs R f.rows.length cR),(12,Vs S f.place.length cS),(13,Vp b3),(14,Vi k),(15,Vs G L.toNat L.toNat),(16,Vi j),(17,Vi t),(166,.bool (decide (0 ≤ t)))] (· = w15) tab_ok hS ?_ (fun a w16 hS hw=>?_))
   ·repeat first|refine zP rfl ?_|refine zK rfl ?_
    refine zC rfl (rfl) ?_
    exact o_nil ⟨⟨rfl,rfl,rfl,rfl,rfl,rfl,rfl,rfl,rfl,rfl,rfl,trivial⟩,rfl⟩
   subst hw
   refine cut (F:=fun a' w'=>∃ row : List Int,St Tryz.f47.ntmps a' [(1,Vp M),(2,Vp N),(6,Vp K),(11,Vs R f.rows.length cR),(12,Vs S f.place.length cS),(13,Vp b3),(14,Vi k),(15,Vs G L.toNat L.toNat),(16,Vi j)] ∧
     RowKit.Below w10.heap.size w10 w' ∧ w'.ownsRow G 3 1 (Vs G L.toNat L.toNat) L.toNat (ints row) ∧ row.length = L.toNat ∧ ∀ c,c < j + 1 → row.getD c 0 = plcM f.place (tgtM sn r c)) ?_ ?_
   ·refine cond hS rfl (fun hT=>?_) (fun hF=>?_)
    ·obtain ⟨tn,rfl⟩:=Int.eq_ofNat_of_zero_le (of_decide_eq_true hT)
     have htc : tn < f.place.length:=by omega
     have hcS : w16.cell? ⟨S,0 + tn,none⟩ = some (Vi f.place[tn]):=YthcoppfiahnpoaaGreat.keep hKr (own_cell hT'.b htc rfl)
     refine seq_cut [(1,Vp M),(2,Vp N),(6,Vp K),(11,Vs R f.rows.length cR),(12,Vs S f.place.length cS),(13,Vp b3),(14,Vi k),(15,Vs G L.toNat L.toNat),(16,Vi j)] (· = w16.setCell ⟨G,0 + j,none⟩ (Vi f.place[tn])) tab_ok hS ?_ (fun a w17 hS hw=>?_)
     ·repeat first|refine zP rfl ?_|refine zK rfl ?_
      refine zI rfl (rfl) (htc) ?_
      refine zL rfl (hcS) ?_
      refine zI rfl (rfl) (hjL) ?_
      refine zS rfl rfl (own_cell hown15 (j:=j) (by omega) hlen13.symm) (own_frozen hown15 j) ?_
      exact o_nil ⟨⟨rfl,rfl,rfl,rfl,rfl,rfl,rfl,rfl,rfl,trivial⟩,rfl⟩
     rw [Nat.zero_add] at hw
     have hown17:=own_stored hown15 j f.place[tn]
     have hb17:=below_of_grown hb15 (hown15.stored j (Vi f.place[tn])).2 (fun q hq=>by cases hq; omega)
     rw [← hw] at hown17 hb17
     refine ⟨_,hS,hb17,hown17,by simp [hlen13],fun c hc=>?_⟩
     by_cases hck : c = j
     ·subst hck
      rw [htg,plcM_nat htc]
      simp [List.getD_eq_getElem?_getD,hlen13,hjL]
     ·rw [← hrow13 c (by omega)]
      simp [List.getD_eq_getElem?_getD,List.getElem?_set_ne (fun e=>hck e.symm)]
    ·refine wp_skip ⟨r2,hS.sub ⟨rfl,rfl,rfl,rfl,rfl,rfl,rfl,rfl,rfl,trivial⟩,hb15,hown15,hlen13,fun c hc=>?_⟩
     by_cases hck : c = j
     ·subst hck
      rw [hat13,htg,plcM_neg (by have:=of_decide_eq_false hF; omega)]
     ·exact hrow13 c (by omega)
   rintro a w17 ⟨row'',hS,hb17,hown17,hlen17,hrow17⟩
   refine block_normal ?_
   refine then_normal ?_
   refine seq_cut [(1,Vp M),(2,Vp N),(6,Vp K),(11,Vs R f.rows.length cR),(12,Vs S f.place.length cS),(13,Vp b3),(14,Vi k),(15,Vs G L.toNat L.toNat),(16,Vi (j + 1 : Nat))] (· = w17) tab_ok hS ?_ (fun a w18 hS hw=>?_)
   ·repeat first|refine zP rfl ?_|refine zK rfl ?_
    refine zN rfl (wrap_succ (by omega)) ?_
    repeat first|refine zP rfl ?_|refine zK rfl ?_
    exact o_nil ⟨⟨rfl,rfl,rfl,rfl,rfl,rfl,rfl,rfl,rfl,trivial⟩,rfl⟩
   subst hw
   exact ⟨L.toNat - (j + 1),_,by omega,⟨j + 1,row'',hjL,rfl,rfl,hb17,hown17,hlen17,hrow17⟩,hS⟩
  rintro a w12 ⟨hS,hb12,hown12⟩
  have hGb : b3 ≤ G:=by have:=hb.size; omega
  have hC12:=hCr.below hb12
  have hown12:=own_mono hown12 hGb
  have hb':=below_trans hb hb12
  clear hb11 hown hb12 hCr hb hG
  obtain ⟨vn1,ve1,us,ho,hve,hvn,hlu,hus⟩:=hC12.mem
  have hkl : ((f.rows.take k).map (renumM f.place sn L.toNat)).length = k:=by simp; omega
  have hrenI : ∀ x ∈ renumM f.place sn L.toNat f.rows[k],I64 x:=fun x hx=>by
   obtain ⟨c,hc,rfl⟩:=List.mem_iff_getElem.1 hx
   rw [renumM_get hc]
   rcases Int.lt_or_le (tgtM sn f.rows[k] c) 0 with h | h
   ·rw [plcM_neg h]; exact ⟨by decide,by decide⟩
   ·obtain ⟨t,ht⟩:=Int.eq_ofNat_of_zero_le h
    have hc' : c < L.toNat:=by rw [renumM_len] at hc; exact hc
    have htr:=tgt_range hShp f.rows[k] (by omega) (by omega) c hc'
    rw [ht] at htr
    have htl : t < f.place.length:=by omega
    have:=hpl t htl
    rw [getD_lt htl] at this
    rw [ht,plcM_nat htl]
    exact ⟨by omega,by omega⟩
  refine wp_seq (seq_cut [(1,Vp M),(2,Vp N),(6,Vp K),(11,Vs R f.rows.length cR),(12,Vs S f.place.length cS),(13,Vp b3),(14,Vi k)] (fun w'=>RowKit.Below w7.heap.size w7 w' ∧ CopyI b3 w' b3 L 0 ((f.rows.take k).map (renumM f.place sn L.toNat) ++ [renumM f.place sn L.toNat f.rows[k]]) ((foundFin f sf).take k)) tab_ok hS ?_ (fun a w13 hS hw=>?_))
  ·obtain ⟨gn,nn,cn,hv⟩:=own_form hvn
   subst hv
   repeat first|refine zP rfl ?_|refine zK rfl ?_
   refine zL rfl (ho.cell (i:=2) rfl) ?_
   repeat first|refine zP rfl ?_|refine zK rfl ?_
   refine o_step rfl rfl rfl ?_
   refine Exists.intro [(0,Vs G L.toNat L.toNat)] (Exists.intro #[Vs G L.toNat L.toNat] (And.intro (And.intro rfl rfl) (And.intro (by decide) (And.intro (fill1 _ _ _ _) ?_))))
   have hy1:=below_alloc w12 (.cells #[Vs G L.toNat L.toNat] 35)
   have ask : AppAsk (w12.alloc (.cells #[Vs G L.toNat L.toNat] 35)) ⟨35,.slice 3,1,24,.slice none 0 0⟩ (.slice gn nn cn) ((f.rows.take k).map (renumM f.place sn L.toNat)).length us (Vs w12.heap.size 1 1) 1 [Vs G L.toNat L.toNat] b3:=
    ⟨hvn.alloc _,.inr ⟨_,0,_,rfl,cell_alloc_new rfl,trivial⟩,rfl,(by simp [Value.oneCell']),(by rw [hkl]; omega),(by rw [hkl]; show (k + 1) * 24 ≤ _; omega),by have:=hy1.size; have:=ho.lt; omega⟩
   refine o_step rfl rfl rfl ?_
   refine Exists.intro _ (Exists.intro _ (Exists.intro _ (Exists.intro _ (Exists.intro _ (And.intro (ask) (And.intro (fun _ h=>h.symm) (And.intro (by decide) ?_)))))))
   rintro v' w4 hown4 hgr - -
   obtain ⟨g4,n4,c4,hv4⟩:=own_form hown4
   subst hv4
   have hown12' : w12.ownsRow b3 3 1 (Vs G L.toNat L.toNat) (renumM f.place sn L.toNat f.rows[k]).length ((renumM f.place sn L.toNat f.rows[k]).map (Value.int .i64)):=by rw [renumM_len]; exact hown12
   obtain ⟨ho4,hC4⟩:=CopyI.add_row hC12.b ho hve hvn hlu hus hown12' hrenI hgr hown4
   repeat first|refine zP rfl ?_|refine zK rfl ?_
   refine zS rfl rfl (ho4.cell (i:=2) rfl) (ho4.free 2) ?_
   refine o_nil ⟨⟨rfl,rfl,rfl,rfl,rfl,rfl,rfl,trivial⟩,?_,hC4⟩
   have e1:=below_of_grown (below_trans hb' hy1) hgr (fun q hq=>by have:=(hvn.lt q hq).1; omega)
   exact below_of_grown e1 (grown_set _ b3 2 _) (fun q hq=>by cases hq; exact hb3')
  obtain ⟨hb13,hC13⟩:=hw
  have hfl : ((foundFin f sf).take k).length ≤ 100000000:=by simp [foundFin]; omega
  clear hC12 hown12 hb' ho hve hvn hus hlu
  have hqc : ∀ j (h : j < sf.length),w13.cell? ⟨Q,0 + j,none⟩ = some (.bool sf[j]):=fun j h=>by
   obtain ⟨b,o,ce,hv,hc⟩:=(hMa7.keep hb13).end h
   cases hv
   exact hc
  refine shrunk_r38 (k:=k) (r:=r) hb13 hb3 (hk7.keep hb13 hk7.lt) (.inr hqc) (hslR.keep hb13 (fun _ _ h=>h)) rfl hlt hrv (by omega) hI6.lf hC13 hb3' hfl (by rfl) hS (fun a w14 hS h14=>?_)
  refine block_normal ?_
  refine then_normal ?_
  refine seq_cut [(1,Vp M),(2,Vp N),(6,Vp K),(11,Vs R f.rows.length cR),(12,Vs S f.place.length cS),(13,Vp b3),(14,Vi (k + 1 : Nat))] (· = w14) tab_ok hS ?_ (fun a w15 hS hw=>?_)
  ·repeat first|refine zP rfl ?_|refine zK rfl ?_
   refine zN rfl (wrap_succ (by omega)) ?_
   repeat first|refine zP rfl ?_|refine zK rfl ?_
   exact o_nil ⟨⟨rfl,rfl,rfl,rfl,rfl,rfl,rfl,trivial⟩,rfl⟩
  subst hw
  refine ⟨f.rows.length - (k + 1),_,by omega,⟨k + 1,hlt,rfl,rfl,h14.1,?_⟩,hS⟩
  have e1 : (f.rows.take (k + 1)).map (renumM f.place sn L.toNat) = (f.rows.take k).map (renumM f.place sn L.toNat) ++ [renumM f.place sn L.toNat f.rows[k]]:=by
   rw [List.take_succ_eq_append_getElem hlt,List.map_append]; rfl
  have e2 : (foundFin f sf).take (k + 1) = (foundFin f sf).take k ++ [sf.getD r false]:=by
   rw [List.take_succ_eq_append_getElem (by simpa [foundFin] using hlt)]
   simp [foundFin,hrv]
  rw [e1,e2]
  exact h14.2
 rintro a w9 ⟨hS,hb9,hC9⟩
 obtain ⟨vn',ve',us,ho,hve,hvn,hlu,hus⟩:=hC9.mem
 have hBw:=below_trans hB (below_trans hK7 hb9)
 have hoN' : OwnB w9 N 25 [Vi 0,Vi 0,.slice none 0 0,.slice none 0 0]:=hoN.keep (below_trans hK7 hb9) hNc
 refine wp_seq (seq_cut [(2,Vp N)] (· = w9.setCells N 0 [Vi L,Vi 0,vn',ve']) tab_ok hS ?_ (fun a w10 hS hw=>?_))
 ·refine zA ([Vi L,Vi 0,vn',ve']) rfl rfl (⟨ho.cell (i:=0) rfl,ho.cell (i:=1) rfl,ho.cell (i:=2) rfl,ho.cell (i:=3) rfl,trivial⟩) ?_
  refine o_step0 rfl rfl (And.intro rfl (And.intro ?_ (And.intro (own_cells4 hoN') ?_)))
  ·obtain ⟨_,_,_,rfl⟩:=own_form hve
   obtain ⟨_,_,_,rfl⟩:=own_form hvn
   rfl
  exact o_nil ⟨⟨rfl,trivial⟩,rfl⟩
 have hg:=grown_sets N [Vi L,Vi 0,vn',ve'] 0 w9
 have hnb : ∀ {e q : Nat} {v : Value} {xs : List Value},w9.ownsRow b3 e 1 v q xs → e ≠ 25 → v.ownBlock = none ∨ v.ownBlock ≠ some N:=fun h he=>.inr (fun hh=>own_neB h hoN' he hh.symm)
 have hbase : w.heap.size ≤ b3:=by have:=(below_trans hB hK7).size; omega
 have hoF : OwnB w10 N 25 [Vi L,Vi 0,vn',ve']:=by rw [hw]; exact hoN'.sets rfl
 have hg : w9.grownBy w10 (some N):=by rw [hw]; exact hg
 have hm10 : OwnM w.heap.size w10 (f.rows.map (renumM f.place sn L.toNat)) (foundFin f sf) vn' ve':=
  ⟨own_mono (hve.kept hg (hnb hve (by decide))) hbase,us,hlu,own_mono (hvn.kept hg (hnb hvn (by decide))) hbase,fun i hi=>by
   obtain ⟨u,h1,h2,h3⟩:=hus i hi
   exact ⟨u,h1,own_mono (h2.kept hg (hnb h2 (by decide))) hbase,h3⟩⟩
 refine wp_ret ?_
 repeat (first | refine then_ret ?_ | refine block_ret ?_)
 refine retc1 tab_ok hS rfl rfl rfl rfl (o:=0) (vs:=[Vi L,Vi 0,vn',ve']) ⟨hoF.cell (i:=0) rfl,hoF.cell (i:=1) rfl,hoF.cell (i:=2) rfl,hoF.cell (i:=3) rfl,trivial⟩ rfl ⟨0,vn',ve',_,_,rfl,hm10,?_,hcn,?_,?_⟩
 ·exact below_of_grown hBw hg (fun q hq=>by cases hq; exact hNw)
 ·exact hal2.trans hal
 ·simp; omega
end Go.Proofs.YthcoppfiahnpoaaGreat
namespace Go.Proofs.YthcoppfiahnpoaaGreat
open Go Sym
def sameM (L1 s1 : Int) (n1 : List (List Int)) (f1 : List Bool) (L2 s2 : Int) (n2 : List (List Int)) (f2 : List Bool) : Bool:=decide (L1 = L2 ∧ s1 = s2 ∧ n1 = n2 ∧ f1 = f2)
theorem ext_getD {α : Type} (d : α) {l k : List α} (hl : l.length = k.length) (h : ∀ j,j < l.length → l.getD j d = k.getD j d) : l = k:=
 List.ext_getElem hl fun j j1 j2=>by
  have:=h j j1
  simpa [List.getD_eq_getElem?_getD,j1,j2] using this
theorem sl_bool {w : World} {v : Value} {l : List Bool} (h : Sl w v l PBool) {i : Nat} (hi : i < l.length) : ∃ b o cn,v = .slice (some ⟨b,o,none⟩) l.length cn ∧ w.cell? ⟨b,o + i,none⟩ = some (.bool l[i]):=by
 obtain ⟨an,bn,on,cn,rfl,m1,m2,m3,m4⟩:=h
 obtain rfl:=m1 (by omega)
 obtain ⟨u,hu,rfl⟩:=m4 i hi
 exact ⟨bn,on,cn,rfl,hu⟩
set_option maxHeartbeats 1000000 in
theorem same_any (L1 s1 L2 s2 : Int) (vn1 ve1 vn2 ve2 : Value) (n1 n2 : List (List Int)) (f1 f2 : List Bool) (w : World) (hm : Ma w L1 s1 n1 f1 vn1 ve1) (hm2 : Ma w L2 s2 n2 f2 vn2 ve2) :
  Calls Tryz.prog 11 #[.agg #[Vi L1,Vi s1,vn1,ve1],.agg #[Vi L2,Vi s2,vn2,ve2]] w fun e w'=>e = .returned (.bool (sameM L1 s1 n1 f1 L2 s2 n2 f2)) ∧ RowKit.Below w.heap.size w w':=by
 refine Sym.enter (args:=[.agg #[Vi L1,Vi s1,vn1,ve1],.agg #[Vi L2,Vi s2,vn2,ve2]]) Tryz.func11 rfl rfl rfl (fun a0 hS0=>?_)
 obtain ⟨N,hN⟩ : ∃ N,N = (w.alloc (.cells #[Vi L1,Vi s1,vn1,ve1] 25)).heap.size:=⟨_,rfl⟩
 obtain ⟨M,hM⟩ : ∃ M,M = w.heap.size:=⟨_,rfl⟩
 refine wp_seq (seq_cut [(2,Vp M),(3,Vp N)] (· = (w.alloc (.cells #[Vi L1,Vi s1,vn1,ve1] 25)).alloc (.cells #[Vi L2,Vi s2,vn2,ve2] 25)) tab_ok hS0 ?_ (fun a wc hS hw=>?_))
 ·subst hN hM
  refine zB rfl ?_
  refine zB rfl ?_
  repeat first|refine zP rfl ?_|refine zK rfl ?_
  exact o_nil ⟨⟨rfl,rfl,trivial⟩,rfl⟩
 have hB1:=below_alloc w (.cells #[Vi L1,Vi s1,vn1,ve1] 25)
 have hB2:=below_alloc (w.alloc (.cells #[Vi L1,Vi s1,vn1,ve1] 25)) (.cells #[Vi L2,Vi s2,vn2,ve2] 25)
 rw [← hw] at hB2
 have hx : Box wc M L1 s1 vn1 ve1:=by rw [hM]; exact (Box.new w L1 s1 vn1 ve1 25).keep hB2
 have hy : Box wc N L2 s2 vn2 ve2:=by rw [hw,hN]; exact Box.new _ _ _ _ _ _
 have hB:=below_trans hB1 hB2
 clear hw hB1 hB2 hN hM
 replace hm:=hm.keep hB
 replace hm2:=hm2.keep hB
 obtain ⟨an1,cn1,hvn1⟩:=hm.n.len
 obtain ⟨ae1,ce1,hve1⟩:=hm.e.len
 obtain ⟨an2,cn2,hvn2⟩:=hm2.n.len
 obtain ⟨ae2,ce2,hve2⟩:=hm2.e.len
 have hb1:=hm.n.lt
 have hb2:=hm.e.lt
 obtain ⟨b37,hb37⟩ : ∃ b,(decide (L1 ≠ L2) || (decide (s1 ≠ s2) || (decide ((n1.length : Int) ≠ n2.length) || decide ((f1.length : Int) ≠ f2.length)))) = b:=⟨_,rfl⟩
 refine wp_seq (wp_seq (seq_cut [(2,Vp M),(3,Vp N),(37,.bool b37)] (· = wc) tab_ok hS ?_ (fun a w1 hS hw=>?_)))
 ·repeat first|refine zP rfl ?_|refine zK rfl ?_
  refine zL rfl (hx.c0) ?_
  repeat first|refine zP rfl ?_|refine zK rfl ?_
  refine zL rfl (hy.c0) ?_
  cases e1 : decide (L1 ≠ L2)
  case true=>
   rw [e1,Bool.true_or] at hb37; subst hb37
   refine zC rfl (e1) ?_
   repeat first|refine zP rfl ?_|refine zK rfl ?_
   exact o_nil ⟨⟨rfl,rfl,rfl,trivial⟩,rfl⟩
  rw [e1,Bool.false_or] at hb37
  refine zC rfl (e1) ?_
  repeat first|refine zP rfl ?_|refine zK rfl ?_
  refine zL rfl (hx.c1) ?_
  repeat first|refine zP rfl ?_|refine zK rfl ?_
  refine zL rfl (hy.c1) ?_
  cases e2 : decide (s1 ≠ s2)
  case true=>
   rw [e2,Bool.true_or] at hb37; subst hb37
   refine zC rfl (e2) ?_
   repeat first|refine zP rfl ?_|refine zK rfl ?_
   exact o_nil ⟨⟨rfl,rfl,rfl,trivial⟩,rfl⟩
  rw [e2,Bool.false_or] at hb37
  refine zC rfl (e2) ?_
  repeat first|refine zP rfl ?_|refine zK rfl ?_
  refine zL rfl (hvn1 ▸ hx.c2) ?_
  repeat first|refine zP rfl ?_|refine zK rfl ?_
  refine zL rfl (hvn2 ▸ hy.c2) ?_
  repeat first|refine zP rfl ?_|refine zK rfl ?_
  cases e3 : decide ((n1.length : Int) ≠ n2.length)
  case true=>
   rw [e3,Bool.true_or] at hb37; subst hb37
   refine zC rfl (e3) ?_
   repeat first|refine zP rfl ?_|refine zK rfl ?_
   exact o_nil ⟨⟨rfl,rfl,rfl,trivial⟩,rfl⟩
  rw [e3,Bool.false_or] at hb37
  refine zC rfl (e3) ?_
  repeat first|refine zP rfl ?_|refine zK rfl ?_
  refine zL rfl (hve1 ▸ hx.c3) ?_
  repeat first|refine zP rfl ?_|refine zK rfl ?_
  refine zL rfl (hve2 ▸ hy.c3) ?_
  repeat first|refine zP rfl ?_|refine zK rfl ?_
  refine zC rfl (hb37) ?_
  repeat first|refine zP rfl ?_|refine zK rfl ?_
  exact o_nil ⟨⟨rfl,rfl,rfl,trivial⟩,rfl⟩
 subst hw
 refine cond hS rfl (fun hT=>?_) (fun hF=>?_)
 ·refine wp_seq (seq_cut [(4,.bool false)] (· = w1) tab_ok hS ?_ (fun a w2 hS hw=>?_))
  ·repeat first|refine zP rfl ?_|refine zK rfl ?_
   exact o_nil ⟨⟨rfl,trivial⟩,rfl⟩
  subst hw
  refine wp_ret ?_
  repeat (first | refine then_ret ?_ | refine block_ret ?_)
  refine ret1 hS rfl rfl ⟨?_,hB⟩
  rw [sameM,decide_eq_false]
  rintro ⟨rfl,rfl,rfl,rfl⟩
  rw [hT] at hb37
  simp at hb37
 rw [hF] at hb37
 simp only [Bool.or_eq_false_iff,decide_eq_false_iff_not,ne_eq,Decidable.not_not] at hb37
 obtain ⟨rfl,rfl,hln,hlf⟩:=hb37
 have hln : n1.length = n2.length:=by omega
 have hlf : f1.length = f2.length:=by omega
 refine wp_skip ?_
 refine wp_seq (wp_seq (seq_cut [(2,Vp M),(3,Vp N),(5,Vi 0)] (· = w1) tab_ok hS ?_ (fun a w2 hS hw=>?_)))
 ·repeat first|refine zP rfl ?_|refine zK rfl ?_
  exact o_nil ⟨⟨rfl,rfl,rfl,trivial⟩,rfl⟩
 subst hw
 refine wp_block (loop0 hS (fun g E wr=>∃ i : Nat,i ≤ n1.length ∧ g = n1.length - i ∧ E = [(2,Vp M),(3,Vp N),(5,Vi i)] ∧ RowKit.Below w2.heap.size w2 wr ∧ ∀ j,j < i → n1.getD j [] = n2.getD j [])
  n1.length ⟨0,Nat.zero_le _,rfl,rfl,RowKit.Below.refl _ _,fun j hj=>by omega⟩ ?_)
 rintro g E wr a1 ⟨i,hi,rfl,rfl,hK,hgo⟩ hS
 have hxK:=hx.keep hK
 have hyK:=hy.keep hK
 have hmK:=hm.keep hK
 have hm2K:=hm2.keep hK
 refine wp_seq (wp_seq (seq_cut [(2,Vp M),(3,Vp N),(5,Vi i),(42,.bool (decide ((i : Int) < n1.length)))] (· = wr) tab_ok hS ?_ (fun a w3 hS hw=>?_)))
 ·repeat first|refine zP rfl ?_|refine zK rfl ?_
  refine zL rfl (hvn1 ▸ hxK.c2) ?_
  repeat first|refine zP rfl ?_|refine zK rfl ?_
  refine zC rfl (rfl) ?_
  exact o_nil ⟨⟨rfl,rfl,rfl,rfl,trivial⟩,rfl⟩
 subst hw
 refine cond hS rfl (fun hT=>?_) (fun hF=>?_)
 case refine_2=>
  refine wp_exit ?_
  repeat (first | refine then_exit ?_ | refine block_exit ?_ | refine block_other rfl ?_)
  have hnn : n1 = n2:=ext_getD [] hln fun j hj=>hgo j (by have:=of_decide_eq_false hF; omega)
  clear hgo
  refine wp_seq (wp_seq (seq_cut [(2,Vp M),(3,Vp N),(7,Vi 0)] (· = w3) tab_ok hS ?_ (fun a w4 hS hw=>?_)))
  ·repeat first|refine zP rfl ?_|refine zK rfl ?_
   exact o_nil ⟨⟨rfl,rfl,rfl,trivial⟩,rfl⟩
  subst hw
  refine wp_block (loop0 hS (fun g E wr=>∃ i : Nat,i ≤ f1.length ∧ g = f1.length - i ∧ E = [(2,Vp M),(3,Vp N),(7,Vi i)] ∧ RowKit.Below w4.heap.size w4 wr ∧ ∀ j,j < i → f1.getD j false = f2.getD j false)
   f1.length ⟨0,Nat.zero_le _,rfl,rfl,RowKit.Below.refl _ _,fun j hj=>by omega⟩ ?_)
  rintro g E wr a1 ⟨k,hk,rfl,rfl,hK2,hgo⟩ hS
  have hxK:=hxK.keep hK2
  have hyK:=hyK.keep hK2
  have hmK:=hmK.keep hK2
  have hm2K:=hm2K.keep hK2
  refine wp_seq (wp_seq (seq_cut [(2,Vp M),(3,Vp N),(7,Vi k),(89,.bool (decide ((k : Int) < f1.length)))] (· = wr) tab_ok hS ?_ (fun a w5 hS hw=>?_)))
  ·repeat first|refine zP rfl ?_|refine zK rfl ?_
   refine zL rfl (hve1 ▸ hxK.c3) ?_
   repeat first|refine zP rfl ?_|refine zK rfl ?_
   refine zC rfl (rfl) ?_
   exact o_nil ⟨⟨rfl,rfl,rfl,rfl,trivial⟩,rfl⟩
  subst hw
  refine cond hS rfl (fun hT=>?_) (fun hF=>?_)
  case refine_2=>
   refine wp_exit ?_
   repeat (first | refine then_exit ?_ | refine block_exit ?_ | refine block_other rfl ?_)
   refine wp_seq (seq_cut [(4,.bool true)] (· = w5) tab_ok hS ?_ (fun a w6 hS hw=>?_))
   ·repeat first|refine zP rfl ?_|refine zK rfl ?_
    exact o_nil ⟨⟨rfl,trivial⟩,rfl⟩
   subst hw
   have hff : f1 = f2:=ext_getD false hlf fun j hj=>hgo j (by have:=of_decide_eq_false hF; omega)
   refine wp_ret ?_
   repeat (first | refine then_ret ?_ | refine block_ret ?_)
   exact ret1 hS rfl rfl ⟨by rw [sameM,decide_eq_true ⟨rfl,rfl,hnn,hff⟩],below_trans (below_trans hB hK) hK2⟩
  have hlt : k < f1.length:=by have:=of_decide_eq_true hT; omega
  have hlt2 : k < f2.length:=by omega
  obtain ⟨p1,q1,r1,e1,u1⟩:=sl_bool hmK.e hlt
  obtain ⟨p2,q2,r2,e2,u2⟩:=sl_bool hm2K.e hlt2
  refine wp_skip ?_
  refine wp_seq (wp_block ?_)
  refine wp_seq (quiet_cut [(2,Vp M),(3,Vp N),(7,Vi k),(102,.bool (f1[k] != f2[k]))] tab_ok mixed (by kernel_rfl) hS ?_ (fun a w6 hS hw=>?_))
  ·repeat first|refine qP rfl ?_|refine qK rfl ?_
   refine qL rfl (e1 ▸ hxK.c3) ?_
   repeat first|refine qP rfl ?_|refine qK rfl ?_
   refine qI rfl (rfl) (hlt) ?_
   refine qL rfl (u1) ?_
   repeat first|refine qP rfl ?_|refine qK rfl ?_
   refine qL rfl (e2 ▸ hyK.c3) ?_
   repeat first|refine qP rfl ?_|refine qK rfl ?_
   refine qI rfl (rfl) (hlt2) ?_
   refine qL rfl (u2) ?_
   refine qC rfl (rfl) ?_
   exact q_nil ⟨rfl,rfl,rfl,rfl,trivial⟩
  have hg1 : f1.getD k false = f1[k]:=getD_lt hlt
  have hg2 : f2.getD k false = f2[k]:=getD_lt hlt2
  refine cond hS rfl (fun hT=>?_) (fun hF=>?_)
  ·refine wp_seq (seq_cut [(4,.bool false)] (· = w6) tab_ok hS ?_ (fun a w7 hS hw7=>?_))
   ·repeat first|refine zP rfl ?_|refine zK rfl ?_
    exact o_nil ⟨⟨rfl,trivial⟩,rfl⟩
   subst hw7
   refine wp_ret ?_
   repeat (first | refine then_ret ?_ | refine block_ret ?_)
   refine ret1 hS rfl rfl ⟨?_,below_trans (below_trans (below_trans hB hK) hK2) hw⟩
   rw [sameM,decide_eq_false]
   rintro ⟨_,_,_,rfl⟩
   rw [bne_self_eq_false] at hT
   cases hT
  refine wp_skip ?_
  refine block_normal ?_
  refine then_normal ?_
  refine seq_cut [(2,Vp M),(3,Vp N),(7,Vi (k + 1 : Nat))] (· = w6) tab_ok hS ?_ (fun a w7 hS hw7=>?_)
  ·repeat first|refine zP rfl ?_|refine zK rfl ?_
   refine zN rfl (wrap_succ (by omega)) ?_
   repeat first|refine zP rfl ?_|refine zK rfl ?_
   exact o_nil ⟨⟨rfl,rfl,rfl,trivial⟩,rfl⟩
  subst hw7
  refine ⟨f1.length - (k + 1),_,by omega,⟨k + 1,hlt,rfl,rfl,below_trans hK2 hw,fun j hj=>?_⟩,hS⟩
  rcases Nat.lt_or_ge j k with h | h
  ·exact hgo j h
  ·obtain rfl : j = k:=by omega
   rw [hg1,hg2]; simpa using hF
 have hlt : i < n1.length:=by have:=of_decide_eq_true hT; omega
 have hlt2 : i < n2.length:=by omega
 obtain ⟨p1,q1,r1,e1,x1,z1,u1,k1⟩:=hmK.cell hlt
 obtain ⟨p2,q2,r2,e2,x2,z2,u2,k2⟩:=hm2K.cell hlt2
 have hg1 : n1.getD i [] = n1[i]:=getD_lt hlt
 have hg2 : n2.getD i [] = n2[i]:=getD_lt hlt2
 refine wp_skip ?_
 refine wp_seq (wp_block ?_)
 refine wp_seq (wp_seq (quiet_cut [(2,Vp M),(3,Vp N),(5,Vi i),(57,.bool (decide ((n1[i].length : Int) ≠ n2[i].length)))] tab_ok mixed (by kernel_rfl) hS ?_ (fun a w4 hS hw=>?_)))
 ·repeat first|refine qP rfl ?_|refine qK rfl ?_
  refine qL rfl (e1 ▸ hxK.c2) ?_
  repeat first|refine qP rfl ?_|refine qK rfl ?_
  refine qI rfl (rfl) (hlt) ?_
  refine qL rfl (u1) ?_
  repeat first|refine qP rfl ?_|refine qK rfl ?_
  refine qL rfl (e2 ▸ hyK.c2) ?_
  repeat first|refine qP rfl ?_|refine qK rfl ?_
  refine qI rfl (rfl) (hlt2) ?_
  refine qL rfl (u2) ?_
  repeat first|refine qP rfl ?_|refine qK rfl ?_
  refine qC rfl (rfl) ?_
  exact q_nil ⟨rfl,rfl,rfl,rfl,trivial⟩
 replace hK:=below_trans hK hw
 replace hxK:=hxK.keep hw
 replace hyK:=hyK.keep hw
 replace hmK:=hmK.keep hw
 replace hm2K:=hm2K.keep hw
 clear hw u1 k1 u2 k2
 refine cond hS rfl (fun hT=>?_) (fun hF=>?_)
 ·refine wp_seq (seq_cut [(4,.bool false)] (· = w4) tab_ok hS ?_ (fun a w5 hS hw=>?_))
  ·repeat first|refine zP rfl ?_|refine zK rfl ?_
   exact o_nil ⟨⟨rfl,trivial⟩,rfl⟩
  subst hw
  refine wp_ret ?_
  repeat (first | refine then_ret ?_ | refine block_ret ?_)
  refine ret1 hS rfl rfl ⟨?_,below_trans hB hK⟩
  rw [sameM,decide_eq_false]
  rintro ⟨_,_,rfl,_⟩
  exact (of_decide_eq_true hT) rfl
 have hlr : n1[i].length = n2[i].length:=by have:=of_decide_eq_false hF; omega
 have hrb : n1[i].length ≤ 9223372036854775807:=by
  obtain ⟨_,_,_,_,_,_,_,_,g4⟩:=hmK.n
  obtain ⟨_,_,g5,_⟩:=g4 i hlt
  exact g5.lt
 refine wp_skip ?_
 refine wp_seq (seq_cut [(2,Vp M),(3,Vp N),(5,Vi i),(6,Vi 0)] (· = w4) tab_ok hS ?_ (fun a w5 hS hw=>?_))
 ·repeat first|refine zP rfl ?_|refine zK rfl ?_
  exact o_nil ⟨⟨rfl,rfl,rfl,rfl,trivial⟩,rfl⟩
 subst hw
 refine wp_block (loop0 hS (fun g E wr=>∃ c : Nat,c ≤ n1[i].length ∧ g = n1[i].length - c ∧ E = [(2,Vp M),(3,Vp N),(5,Vi i),(6,Vi c)] ∧ RowKit.Below w5.heap.size w5 wr ∧ ∀ j,j < c → n1[i].getD j 0 = n2[i].getD j 0)
  n1[i].length ⟨0,Nat.zero_le _,rfl,rfl,RowKit.Below.refl _ _,fun j hj=>by omega⟩ ?_)
 rintro g E wr a1 ⟨c,hc,rfl,rfl,hK2,hgo2⟩ hS
 have hxC:=hxK.keep hK2
 have hyC:=hyK.keep hK2
 obtain ⟨p1,q1,r1,e1,x1,z1,u1,k1⟩:=(hmK.keep hK2).cell hlt
 obtain ⟨p2,q2,r2,e2,x2,z2,u2,k2⟩:=(hm2K.keep hK2).cell hlt2
 refine wp_seq (wp_seq (seq_cut [(2,Vp M),(3,Vp N),(5,Vi i),(6,Vi c),(65,.bool (decide ((c : Int) < n1[i].length)))] (· = wr) tab_ok hS ?_ (fun a w6 hS hw=>?_)))
 ·repeat first|refine zP rfl ?_|refine zK rfl ?_
  refine zL rfl (e1 ▸ hxC.c2) ?_
  repeat first|refine zP rfl ?_|refine zK rfl ?_
  refine zI rfl (rfl) (hlt) ?_
  refine zL rfl (u1) ?_
  repeat first|refine zP rfl ?_|refine zK rfl ?_
  refine zC rfl (rfl) ?_
  exact o_nil ⟨⟨rfl,rfl,rfl,rfl,rfl,trivial⟩,rfl⟩
 subst hw
 refine cond hS rfl (fun hT=>?_) (fun hF=>?_)
 case refine_2=>
  refine wp_exit ?_
  repeat (first | refine then_exit ?_ | refine block_exit ?_ | refine block_other rfl ?_)
  have hrow : n1[i] = n2[i]:=ext_getD 0 hlr fun j hj=>hgo2 j (by have:=of_decide_eq_false hF; omega)
  refine block_normal ?_
  refine then_normal ?_
  refine seq_cut [(2,Vp M),(3,Vp N),(5,Vi (i + 1 : Nat))] (· = w6) tab_ok hS ?_ (fun a w7 hS hw7=>?_)
  ·repeat first|refine zP rfl ?_|refine zK rfl ?_
   refine zN rfl (wrap_succ (by omega)) ?_
   repeat first|refine zP rfl ?_|refine zK rfl ?_
   exact o_nil ⟨⟨rfl,rfl,rfl,trivial⟩,rfl⟩
  subst hw7
  refine ⟨n1.length - (i + 1),_,by omega,⟨i + 1,hlt,rfl,rfl,below_trans hK hK2,fun j hj=>?_⟩,hS⟩
  rcases Nat.lt_or_ge j i with h | h
  ·exact hgo j h
  ·obtain rfl : j = i:=by omega
   rw [hg1,hg2,hrow]
 have hcl : c < n1[i].length:=by have:=of_decide_eq_true hT; omega
 have hcl2 : c < n2[i].length:=by omega
 obtain ⟨bb1,oo1,rfl,kk1⟩:=k1 c hcl
 obtain ⟨bb2,oo2,rfl,kk2⟩:=k2 c hcl2
 refine wp_skip ?_
 refine wp_seq (wp_block ?_)
 refine wp_seq (quiet_cut [(2,Vp M),(3,Vp N),(5,Vi i),(6,Vi c),(84,.bool (decide (n1[i][c] ≠ n2[i][c])))] tab_ok mixed (by kernel_rfl) hS ?_ (fun a w7 hS hw=>?_))
 ·repeat first|refine qP rfl ?_|refine qK rfl ?_
  refine qL rfl (e1 ▸ hxC.c2) ?_
  repeat first|refine qP rfl ?_|refine qK rfl ?_
  refine qI rfl (rfl) (hlt) ?_
  refine qL rfl (u1) ?_
  repeat first|refine qP rfl ?_|refine qK rfl ?_
  refine qI rfl (rfl) (hcl) ?_
  refine qL rfl (kk1) ?_
  repeat first|refine qP rfl ?_|refine qK rfl ?_
  refine qL rfl (e2 ▸ hyC.c2) ?_
  repeat first|refine qP rfl ?_|refine qK rfl ?_
  refine qI rfl (rfl) (hlt2) ?_
  refine qL rfl (u2) ?_
  repeat first|refine qP rfl ?_|refine qK rfl ?_
  refine qI rfl (rfl) (hcl2) ?_
  refine qL rfl (kk2) ?_
  refine qC rfl (rfl) ?_
  exact q_nil ⟨rfl,rfl,rfl,rfl,rfl,trivial⟩
 refine cond hS rfl (fun hT=>?_) (fun hF=>?_)
 ·refine wp_seq (seq_cut [(4,.bool false)] (· = w7) tab_ok hS ?_ (fun a w8 hS hw8=>?_))
  ·repeat first|refine zP rfl ?_|refine zK rfl ?_
   exact o_nil ⟨⟨rfl,trivial⟩,rfl⟩
  subst hw8
  refine wp_ret ?_
  repeat (first | refine then_ret ?_ | refine block_ret ?_)
  refine ret1 hS rfl rfl ⟨?_,below_trans (below_trans (below_trans hB hK) hK2) hw⟩
  rw [sameM,decide_eq_false]
  rintro ⟨_,_,rfl,_⟩
  exact (of_decide_eq_true hT) rfl
 refine wp_skip ?_
 refine block_normal ?_
 refine then_normal ?_
 refine seq_cut [(2,Vp M),(3,Vp N),(5,Vi i),(6,Vi (c + 1 : Nat))] (· = w7) tab_ok hS ?_ (fun a w8 hS hw8=>?_)
 ·repeat first|refine zP rfl ?_|refine zK rfl ?_
  refine zN rfl (wrap_succ (by omega)) ?_
  repeat first|refine zP rfl ?_|refine zK rfl ?_
  exact o_nil ⟨⟨rfl,rfl,rfl,rfl,trivial⟩,rfl⟩
 subst hw8
 refine ⟨n1[i].length - (c + 1),_,by omega,⟨c + 1,hcl,rfl,rfl,below_trans hK2 hw,fun j hj=>?_⟩,hS⟩
 rcases Nat.lt_or_ge j c with h | h
 ·exact hgo2 j h
 ·obtain rfl : j = c:=by omega
  rw [getD_lt hcl,getD_lt hcl2]
  exact Decidable.not_not.1 (of_decide_eq_false hF)
end Go.Proofs.YthcoppfiahnpoaaGreat
namespace Go.Proofs.YthcoppfiahnpoaaGreat
open Go Sym
theorem en_Shrunk : enters Tryz.prog 47 = true:=by kernel_rfl
end Go.Proofs.YthcoppfiahnpoaaGreat
namespace Go.Proofs.YthcoppfiahnpoaaGreat
open Go Sym
theorem en_Same : enters Tryz.prog 11 = true:=by kernel_rfl
theorem small_rows {L : Int} {next : List (List Int)} {fin : List Bool} (h : smallM L next fin = true) : next.length ≤ 30 ∧ fin.length ≤ 40 ∧ L ≤ 8:=by
 unfold smallM at h
 rw [Bool.and_eq_true,Bool.and_eq_true,decide_eq_true_eq,decide_eq_true_eq,decide_eq_true_eq] at h
 omega
end Go.Proofs.YthcoppfiahnpoaaGreat
namespace Go.Proofs.YthcoppfiahnpoaaGreat
end Go.Proofs.YthcoppfiahnpoaaGreat
namespace Go.Proofs.YthcoppfiahnpoaaGreat
theorem scanRow_mem : ∀ {r : List Int} {c c' : Nat},scanRow c r = some c' → ∀ j,c ≤ j → j < c' → (j : Int) ∈ r
 | [],c,c',h,j,h1,h2=>by
   simp only [scanRow,Option.some.injEq] at h
   omega
 | t :: r,c,c',h,j,h1,h2=>by
   unfold scanRow at h
   split at h
   ·exact List.mem_cons_of_mem _ (scanRow_mem h j h1 h2)
   ·split at h
    ·rename_i ht
     by_cases e : j = c
     ·rw [e,← ht]; exact List.mem_cons_self ..
     ·exact List.mem_cons_of_mem _ (scanRow_mem h j (by omega) h2)
    ·cases h
theorem scan_reach {L s : Int} {next : List (List Int)} {fin : List Bool} (hs : Shape L s next fin) : ∀ (rs : List (List Int)) (c i m : Nat),rs = next.drop i → scan c i rs = some m →
  (∀ j : Nat,j < c → ∃ u,Word L.toNat u ∧ runM next 0 u = (j : Int)) → ∀ j : Nat,j < m → ∃ u,Word L.toNat u ∧ runM next 0 u = (j : Int)
 | [],c,i,m,_,h,hr,j,hj=>by
   simp only [scan,Option.some.injEq] at h
   exact hr j (by omega)
 | r :: rs,c,i,m,e,h,hr,j,hj=>by
   have hi : i < next.length:=by
    refine Nat.lt_of_not_le fun hle=>?_
    rw [List.drop_of_length_le hle] at e
    cases e
   rw [List.drop_eq_getElem_cons hi,List.cons.injEq] at e
   obtain ⟨rfl,rfl⟩:=e
   unfold scan at h
   split at h
   ·rename_i hic
    split at h
    ·rename_i c' hc'
     refine scan_reach hs _ c' (i + 1) m rfl h (fun q hq=>?_) j hj
     rcases Nat.lt_or_ge q c with h1 | h1
     ·exact hr q h1
     ·obtain ⟨k,hk,ek⟩:=List.mem_iff_getElem.1 (scanRow_mem hc' q h1 hq)
      obtain ⟨u,hu,eu⟩:=hr i hic
      have hl:=(hs.rows i hi).1
      refine ⟨u ++ [k],hu.append (Word.cons (by omega) (Word.nil _)),?_⟩
      rw [runM_append,eu]
      show stepM next i k = _
      rw [stepM_get hi hk,ek]
    ·cases h
   ·cases h
theorem canon_few {L s s' : Int} {next n' : List (List Int)} {fin f' : List Bool} (hs : Shape L s next fin) (hc : Canon L s' n' f') (ha : Alike L.toNat n' f' s' next fin s) : n'.length ≤ next.length:=by
 rcases Nat.eq_zero_or_pos n'.length with h0 | h0
 ·omega
 have hs0:=hc.s0 h0
 subst hs0
 have hr:=scan_reach hc.shape n' 1 0 n'.length rfl (hc.num h0) (fun j hj=>⟨[],Word.nil _,show (0 : Int) = (j : Int) by omega⟩)
 have key : ∀ j : Nat,∃ q : Nat,j < n'.length → q < next.length ∧ Alike L.toNat n' f' j next fin q:=fun j=>by
  by_cases hj : j < n'.length
  ·obtain ⟨u,hu,eu⟩:=hr j hj
   have h1:=ha.run hu
   rw [eu] at h1
   have h2:=(h1.live (hc.live j hj)).pos
   have h3:=runM_range hs u s hu hs.s1 hs.s2
   refine ⟨(runM next s u).toNat,fun _=>⟨by omega,?_⟩⟩
   rw [Int.toNat_of_nonneg h2]
   exact h1
  ·exact ⟨0,fun h=>(hj h).elim⟩
 obtain ⟨q,hq⟩:=Classical.skolem.1 key
 have hnd : ((List.range n'.length).map q).Nodup:=by
  refine List.pairwise_map.2 (List.nodup_range.imp_of_mem fun {a b} h1 h2 h3 e=>h3 ?_)
  have k1:=hq a (List.mem_range.1 h1)
  have k2:=hq b (List.mem_range.1 h2)
  rw [← e] at k2
  exact hc.dist a b (List.mem_range.1 h1) (List.mem_range.1 h2) (k1.2.trans k2.2.symm)
 have:=hnd.length_le_of_subset (l₂:=List.range next.length) (fun x hx=>by
  obtain ⟨j,hj,rfl⟩:=List.mem_map.1 hx
  exact List.mem_range.2 (hq j (List.mem_range.1 hj)).1)
 simpa using this
end Go.Proofs.YthcoppfiahnpoaaGreat
namespace Go.Proofs.YthcoppfiahnpoaaGreat
abbrev gt (l : List Nat) (i : Nat) : Nat:=l.getD i 0
theorem gt_set (l : List Nat) (i v j : Nat) : gt (l.set i v) j = if i = j ∧ i < l.length then v else gt l j:=by
 simp only [gt,List.getD_eq_getElem?_getD,List.getElem?_set]
 split
 ·rename_i h
  subst h
  split
  ·simp [*]
  ·rename_i h2
   simp [h2]
 ·rename_i h
  simp [h]
theorem gt_app (l k : List Nat) (j : Nat) : gt (l ++ k) j = if j < l.length then gt l j else gt k (j - l.length):=by
 simp only [gt,List.getD_eq_getElem?_getD,List.getElem?_append]
 split <;> rfl
structure Blk where
 first : Nat
 size : Nat
 marked : Nat
 parent : Nat
abbrev gb (l : List Blk) (i : Nat) : Blk:=l.getD i ⟨0,0,0,0⟩
theorem gb_set (l : List Blk) (i : Nat) (v : Blk) (j : Nat) : gb (l.set i v) j = if i = j ∧ i < l.length then v else gb l j:=by
 simp only [gb,List.getD_eq_getElem?_getD,List.getElem?_set]
 split
 ·rename_i h
  subst h
  split
  ·simp [*]
  ·rename_i h2
   simp [h2]
 ·rename_i h
  simp [h]
theorem gb_app (l : List Blk) (v : Blk) (j : Nat) : gb (l ++ [v]) j = if j < l.length then gb l j else if j = l.length then v else ⟨0,0,0,0⟩:=by
 simp only [gb,List.getD_eq_getElem?_getD,List.getElem?_append]
 split
 ·rfl
 ·split
  ·rename_i h; simp [h]
  ·rename_i h1 h2
   rw [List.getElem?_eq_none (by simp; omega)]
   rfl
structure Pt where
 st : List Nat
 pl : List Nat
 bl : List Nat
 bs : List Blk
 cs : List Nat
 ml : List Nat
structure PI (p : Pt) (N : Nat) (todo : List Nat) : Prop where
 st : p.st.length = N
 pl : p.pl.length = N
 bl : p.bl.length = N
 sp : ∀ i,i < N → gt p.st i < N ∧ gt p.pl (gt p.st i) = i
 ps : ∀ s,s < N → gt p.pl s < N ∧ gt p.st (gt p.pl s) = s
 ib : ∀ s,s < N → gt p.bl s < p.bs.length
 inn : ∀ s,s < N → (gb p.bs (gt p.bl s)).first ≤ gt p.pl s ∧ gt p.pl s < (gb p.bs (gt p.bl s)).first + (gb p.bs (gt p.bl s)).size
 bd : ∀ b,b < p.bs.length → 0 < (gb p.bs b).size ∧ (gb p.bs b).marked ≤ (gb p.bs b).size ∧ (gb p.bs b).first + (gb p.bs b).size ≤ N
 own : ∀ b,b < p.bs.length → ∀ i,(gb p.bs b).first ≤ i → i < (gb p.bs b).first + (gb p.bs b).size → gt p.bl (gt p.st i) = b
 tm : ∀ b,b ∈ todo ↔ b < p.bs.length ∧ 0 < (gb p.bs b).marked
 nd : todo.Nodup
def Pt.M (p : Pt) (s : Nat) : Prop:=gt p.pl s < (gb p.bs (gt p.bl s)).first + (gb p.bs (gt p.bl s)).marked
def Pt.mark (p : Pt) (s : Nat) : Pt:=
 let own:=gt p.bl s
 let b:=gb p.bs own
 let to:=b.first + b.marked
 let fr:=gt p.pl s
 let ot:=gt p.st to
 { p with ml:=if b.marked = 0 then p.ml ++ [own] else p.ml,st:=(p.st.set to s).set fr ot,pl:=(p.pl.set s to).set ot fr,bs:=p.bs.set own ⟨b.first,b.size,b.marked + 1,b.parent⟩ }
theorem PI.to {p : Pt} {N : Nat} (h : PI p N p.ml) {s : Nat} (hs : s < N) (hm : ¬ p.M s) : (gb p.bs (gt p.bl s)).first + (gb p.bs (gt p.bl s)).marked < N ∧ (gb p.bs (gt p.bl s)).marked < (gb p.bs (gt p.bl s)).size:=by
 unfold Pt.M at hm
 have h1:=h.inn s hs
 have h2:=h.bd _ (h.ib s hs)
 omega
theorem mark_ok {p : Pt} {N : Nat} (h : PI p N p.ml) {s : Nat} (hs : s < N) (hm : ¬ p.M s) : PI (p.mark s) N (p.mark s).ml ∧ (∀ t,t < N → ((p.mark s).M t ↔ p.M t ∨ t = s)):=by
 have ht:=h.to hs hm
 have hb:=h.ib s hs
 obtain ⟨own,hown⟩ : ∃ own,gt p.bl s = own:=⟨_,rfl⟩
 obtain ⟨b,hbb⟩ : ∃ b,gb p.bs own = b:=⟨_,rfl⟩
 obtain ⟨to,hto⟩ : ∃ to,b.first + b.marked = to:=⟨_,rfl⟩
 obtain ⟨fr,hfr⟩ : ∃ fr,gt p.pl s = fr:=⟨_,rfl⟩
 obtain ⟨ot,hot⟩ : ∃ ot,gt p.st to = ot:=⟨_,rfl⟩
 have hmk : p.mark s = { p with ml:=if b.marked = 0 then p.ml ++ [own] else p.ml,st:=(p.st.set to s).set fr ot,pl:=(p.pl.set s to).set ot fr,bs:=p.bs.set own ⟨b.first,b.size,b.marked + 1,b.parent⟩ }:=by
  simp only [Pt.mark,hown,hbb,hto,hfr,hot]
 rw [hown,hbb] at ht
 rw [hown] at hb
 have hps:=h.ps s hs
 rw [hfr] at hps
 have hinn:=h.inn s hs
 rw [hown,hbb,hfr] at hinn
 have hbd:=h.bd own hb
 rw [hbb] at hbd
 have hM : ¬ fr < to:=by
  unfold Pt.M at hm
  rw [hown,hbb,hfr,hto] at hm
  exact hm
 have hspt:=h.sp to (by omega)
 rw [hot] at hspt
 have hoto : gt p.bl ot = own:=by rw [← hot]; exact h.own own hb to (by rw [hbb]; omega) (by rw [hbb]; omega)
 rw [hmk]
 have gst : ∀ i,i < N → gt ((p.st.set to s).set fr ot) i = if fr = i then ot else if to = i then s else gt p.st i:=fun i hi=>by
  rw [gt_set,gt_set,List.length_set,h.st]
  have : fr < N:=hps.1
  have : to < N:=by omega
  simp only [*,and_true]
 have gpl : ∀ t,t < N → gt ((p.pl.set s to).set ot fr) t = if ot = t then fr else if s = t then to else gt p.pl t:=fun i hi=>by
  rw [gt_set,gt_set,List.length_set,h.pl]
  have:=hspt.1
  simp only [*,and_true]
 have gbs : ∀ c,gb (p.bs.set own ⟨b.first,b.size,b.marked + 1,b.parent⟩) c = if own = c then ⟨b.first,b.size,b.marked + 1,b.parent⟩ else gb p.bs c:=fun c=>by
  rw [gb_set]
  simp only [hb,and_true]
 have hsz : ∀ c,(gb (p.bs.set own ⟨b.first,b.size,b.marked + 1,b.parent⟩) c).first = (gb p.bs c).first ∧ (gb (p.bs.set own ⟨b.first,b.size,b.marked + 1,b.parent⟩) c).size = (gb p.bs c).size:=fun c=>by
  rw [gbs]
  split
  ·rename_i e; subst e; rw [hbb]; exact ⟨rfl,rfl⟩
  ·exact ⟨rfl,rfl⟩
 have inj : ∀ i j,i < N → j < N → gt p.st i = gt p.st j → i = j:=fun i j hi hj e=>by rw [← (h.sp i hi).2,e,(h.sp j hj).2]
 have injp : ∀ i j,i < N → j < N → gt p.pl i = gt p.pl j → i = j:=fun i j hi hj e=>by rw [← (h.ps i hi).2,e,(h.ps j hj).2]
 have inn2 : ∀ t,t < N → (gb p.bs (gt p.bl t)).first ≤ gt ((p.pl.set s to).set ot fr) t ∧ gt ((p.pl.set s to).set ot fr) t < (gb p.bs (gt p.bl t)).first + (gb p.bs (gt p.bl t)).size:=fun t htN=>by
  rw [gpl t htN]
  split
  ·rename_i e; subst e; rw [hoto,hbb]; omega
  ·split
   ·rename_i e; subst e; rw [hown,hbb]; omega
   ·exact h.inn t htN
 refine ⟨⟨by simp [h.st],by simp [h.pl],h.bl,fun i hi=>?_,fun t htN=>?_,fun t htN=>by simpa using h.ib t htN,fun t htN=>?_,fun c hc=>?_,fun c hc i h1 h2=>?_,fun c=>?_,?_⟩,fun t htN=>?_⟩
 ·show gt ((p.st.set to s).set fr ot) i < N ∧ gt ((p.pl.set s to).set ot fr) (gt ((p.st.set to s).set fr ot) i) = i
  rw [gst i hi]
  split
  ·rename_i e
   refine ⟨hspt.1,?_⟩
   rw [gpl _ hspt.1,if_pos rfl]; exact e
  ·rename_i e1
   split
   ·rename_i e
    refine ⟨hs,?_⟩
    rw [gpl _ hs]
    split
    ·rename_i e2
     have : gt p.st to = gt p.st fr:=by rw [hot,hps.2,e2]
     have:=inj _ _ (by omega) hps.1 this
     omega
    ·rw [if_pos rfl]; exact e
   ·rename_i e2
    have hsp:=h.sp i hi
    refine ⟨hsp.1,?_⟩
    rw [gpl _ hsp.1,if_neg,if_neg]
    ·exact hsp.2
    ·intro e3
     apply e1
     rw [← hfr,e3]; exact hsp.2
    ·intro e3
     apply e2
     have:=hspt.2
     rw [e3,hsp.2] at this
     omega
 ·show gt ((p.pl.set s to).set ot fr) t < N ∧ gt ((p.st.set to s).set fr ot) (gt ((p.pl.set s to).set ot fr) t) = t
  rw [gpl t htN]
  split
  ·rename_i e
   refine ⟨hps.1,?_⟩
   rw [gst _ hps.1,if_pos rfl]; exact e
  ·rename_i e1
   split
   ·rename_i e
    refine ⟨by omega,?_⟩
    rw [gst _ (by omega)]
    split
    ·rename_i e2
     have : gt p.st to = s:=by rw [← e2]; exact hps.2
     exact (e1 (by rw [← hot,this]; exact e)).elim
    ·rw [if_pos rfl]; exact e
   ·rename_i e2
    have hp:=h.ps t htN
    refine ⟨hp.1,?_⟩
    rw [gst _ hp.1,if_neg,if_neg]
    ·exact hp.2
    ·intro e3
     apply e1
     rw [← hot,e3]; exact hp.2
    ·intro e3
     apply e2
     have:=hps.2
     rw [e3,hp.2] at this
     omega
 ·show (gb (p.bs.set own _) (gt p.bl t)).first ≤ gt ((p.pl.set s to).set ot fr) t ∧ _ < (gb (p.bs.set own _) (gt p.bl t)).first + (gb (p.bs.set own _) (gt p.bl t)).size
  rw [(hsz _).1,(hsz _).2]
  exact inn2 t htN
 ·show 0 < (gb (p.bs.set own _) c).size ∧ (gb (p.bs.set own _) c).marked ≤ (gb (p.bs.set own _) c).size ∧ (gb (p.bs.set own _) c).first + (gb (p.bs.set own _) c).size ≤ N
  have hc' : c < p.bs.length:=by simpa using hc
  rw [gbs]
  split
  ·simp only; omega
  ·exact h.bd c hc'
 ·have hc' : c < p.bs.length:=by simpa using hc
  have h1 : (gb p.bs c).first ≤ i:=by rw [← (hsz c).1]; exact h1
  have h2 : i < (gb p.bs c).first + (gb p.bs c).size:=by rw [← (hsz c).1,← (hsz c).2]; exact h2
  have hcN:=h.bd c hc'
  show gt p.bl (gt ((p.st.set to s).set fr ot) i) = c
  rw [gst i (by omega)]
  split
  ·rename_i e
   have:=h.own c hc' i h1 h2
   rw [← e,hps.2,hown] at this
   rw [hoto]; exact this
  ·split
   ·rename_i e
    have:=h.own c hc' i h1 h2
    rw [← e,hot,hoto] at this
    rw [hown]; exact this
   ·exact h.own c hc' i h1 h2
 ·show c ∈ (if b.marked = 0 then p.ml ++ [own] else p.ml) ↔ c < (p.bs.set own _).length ∧ 0 < (gb (p.bs.set own _) c).marked
  rw [gbs,List.length_set]
  have htm:=h.tm c
  split
  ·rename_i hz
   rw [List.mem_append,List.mem_singleton]
   split
   ·rename_i e; subst e; simp [hb]
   ·rename_i e
    rw [htm]
    constructor
    ·rintro (h | h)
     ·exact h
     ·exact (e h.symm).elim
    ·exact .inl
  ·rename_i hz
   rw [htm]
   split
   ·rename_i e; subst e
    rw [hbb]
    simp only [hb,true_and]
    omega
   ·rfl
 ·show (if b.marked = 0 then p.ml ++ [own] else p.ml).Nodup
  split
  ·rename_i hz
   rw [List.nodup_append]
   refine ⟨h.nd,by simp,fun x hx y hy e=>?_⟩
   rw [List.mem_singleton] at hy
   have:=(h.tm x).1 hx
   rw [e,hy,hbb] at this
   omega
  ·exact h.nd
 ·show gt ((p.pl.set s to).set ot fr) t < (gb (p.bs.set own _) (gt p.bl t)).first + (gb (p.bs.set own _) (gt p.bl t)).marked ↔ gt p.pl t < (gb p.bs (gt p.bl t)).first + (gb p.bs (gt p.bl t)).marked ∨ t = s
  rw [gpl t htN,gbs]
  by_cases e1 : ot = t
  ·subst e1
   rw [if_pos rfl,hoto,if_pos rfl,hbb]
   show fr < b.first + (b.marked + 1) ↔ _
   have h3 : gt p.pl ot = to:=hspt.2
   constructor
   ·intro hlt
    have e : fr = to:=by omega
    refine .inr ?_
    rw [← hot,← e]; exact hps.2
   ·rintro (h4 | h4)
    ·omega
    ·rw [h4,hfr] at h3; omega
  ·rw [if_neg e1]
   by_cases e2 : s = t
   ·subst e2
    rw [if_pos rfl,hown,if_pos rfl]
    simp
    omega
   ·rw [if_neg e2]
    have hne : gt p.pl t ≠ to:=fun e=>e1 (by rw [← hot,← e]; exact (h.ps t htN).2)
    by_cases e3 : own = gt p.bl t
    ·rw [if_pos e3,← e3,hbb]
     show gt p.pl t < b.first + (b.marked + 1) ↔ _
     constructor
     ·intro h4; exact .inl (by omega)
     ·rintro (h4 | h4)
      ·omega
      ·exact (e2 h4.symm).elim
    ·rw [if_neg e3]
     constructor
     ·exact .inl
     ·rintro (h4 | h4)
      ·exact h4
      ·exact (e2 h4.symm).elim
end Go.Proofs.YthcoppfiahnpoaaGreat
namespace Go.Proofs.YthcoppfiahnpoaaGreat
def relabel (st : List Nat) (nb : Nat) : List Nat → Nat → Nat → List Nat
 | bl,_,0=>bl
 | bl,i,k + 1=>relabel st nb (bl.set (gt st i) nb) (i + 1) k
theorem relabel_len (st : List Nat) (nb : Nat) : ∀ (k i : Nat) (bl : List Nat),(relabel st nb bl i k).length = bl.length
 | 0,_,_=>rfl
 | k + 1,i,bl=>by rw [relabel,relabel_len st nb k]; simp
theorem relabel_get {st pl : List Nat} {N : Nat} (nb : Nat) (hsp : ∀ i,i < N → gt st i < N ∧ gt pl (gt st i) = i) (hps : ∀ s,s < N → gt pl s < N ∧ gt st (gt pl s) = s) :
  ∀ (k i : Nat) (bl : List Nat),bl.length = N → i + k ≤ N → ∀ t,t < N → gt (relabel st nb bl i k) t = if i ≤ gt pl t ∧ gt pl t < i + k then nb else gt bl t
 | 0,i,bl,_,_,t,_=>by rw [relabel,if_neg (by omega)]
 | k + 1,i,bl,hb,hk,t,ht=>by
   rw [relabel,relabel_get nb hsp hps k (i + 1) _ (by simpa using hb) (by omega) t ht,gt_set]
   have h1:=hsp i (by omega)
   have h2:=hps t ht
   by_cases e : gt st i = t
   ·have : gt pl t = i:=by rw [← e]; exact h1.2
    rw [this,if_neg (by omega),if_pos (by omega),if_pos (by omega)]
   ·have hne : gt pl t ≠ i:=fun e2=>e (by rw [← e2]; exact h2.2)
    by_cases h3 : i + 1 ≤ gt pl t ∧ gt pl t < i + 1 + k
    ·rw [if_pos h3,if_pos (by omega)]
    ·rw [if_neg h3,if_neg (fun h=>e h.1),if_neg (by omega)]
def Pt.low (p : Pt) : Nat:=gt p.cs (p.cs.length - 1)
def Pt.splitOne (p : Pt) (old : Nat) : Pt:=
 let b:=gb p.bs old
 if b.marked = b.size then { p with bs:=p.bs.set old ⟨b.first,b.size,0,b.parent⟩ }
 else { p with bs:=p.bs.set old ⟨b.first + b.marked,b.size - b.marked,0,b.parent⟩ ++ [⟨b.first,b.marked,0,if p.low ≤ old then b.parent else old⟩],bl:=relabel p.st p.bs.length p.bl b.first b.marked }
def Pt.split (p : Pt) : Pt:={ p.ml.foldl Pt.splitOne p with ml:=[] }
def Pt.base (p : Pt) (b : Nat) : Nat:=if p.low ≤ b then (gb p.bs b).parent else b
structure PH (p q : Pt) (N : Nat) : Prop where
 cs : q.cs = p.cs
 len : p.bs.length ≤ q.bs.length
 par : ∀ b,b < p.bs.length → (gb q.bs b).parent = (gb p.bs b).parent
 base : ∀ s,s < N → q.base (gt q.bl s) = p.base (gt p.bl s)
 low : ∀ b,b < q.bs.length → p.low ≤ b → b < p.bs.length ∨ ∃ c,c < p.bs.length ∧ (gb q.bs b).parent = p.base c
theorem PH.refl (p : Pt) (N : Nat) : PH p p N:=⟨rfl,Nat.le_refl _,fun _ _=>rfl,fun _ _=>rfl,fun _ h _=>.inl h⟩
theorem PH.trans {p q r : Pt} {N : Nat} (hpl : p.low ≤ p.bs.length) (h : PH p q N) (k : PH q r N) : PH p r N:=by
 have hl : q.low = p.low:=by unfold Pt.low; rw [h.cs]
 have bb : ∀ c,c < q.bs.length → (∃ c',c' < p.bs.length ∧ q.base c = p.base c'):=fun c hc=>by
  by_cases hlow : p.low ≤ c
  ·rcases h.low c hc hlow with h1 | ⟨c',h1,h2⟩
   ·refine ⟨c,h1,?_⟩
    unfold Pt.base; rw [hl,if_pos hlow,if_pos hlow,h.par c h1]
   ·refine ⟨c',h1,?_⟩
    rw [← h2]; unfold Pt.base; rw [hl,if_pos hlow]
  ·by_cases h1 : c < p.bs.length
   ·refine ⟨c,h1,?_⟩
    unfold Pt.base; rw [hl,if_neg hlow,if_neg hlow]
   ·omega
 refine ⟨k.cs.trans h.cs,Nat.le_trans h.len k.len,fun b hb=>(k.par b (Nat.lt_of_lt_of_le hb h.len)).trans (h.par b hb),fun s hs=>(k.base s hs).trans (h.base s hs),fun b hb hlow=>?_⟩
 rcases k.low b hb (by rw [hl]; exact hlow) with h1 | ⟨c,h1,h2⟩
 ·rcases h.low b h1 hlow with h3 | ⟨c,h3,h4⟩
  ·exact .inl h3
  ·exact .inr ⟨c,h3,by rw [k.par b h1]; exact h4⟩
 ·obtain ⟨c',h3,h4⟩:=bb c h1
  exact .inr ⟨c',h3,by rw [h2,h4]⟩
theorem splitOne_ok {p : Pt} {N old : Nat} {r : List Nat} (hlow : p.low ≤ p.bs.length) (h : PI p N (old :: r)) :
  PI (p.splitOne old) N r ∧ (∀ s,s < N → ((p.splitOne old).M s ↔ p.M s ∧ gt p.bl s ≠ old)) ∧ (∀ s t,s < N → t < N → (gt (p.splitOne old).bl s = gt (p.splitOne old).bl t ↔ gt p.bl s = gt p.bl t ∧ (gt p.bl s = old → (p.M s ↔ p.M t)))) ∧ PH p (p.splitOne old) N:=by
 obtain ⟨b,hb⟩ : ∃ b,gb p.bs old = b:=⟨_,rfl⟩
 have ho:=(h.tm old).1 (by simp)
 rw [hb] at ho
 obtain ⟨hol,hm0⟩:=ho
 have hbd:=h.bd old hol
 rw [hb] at hbd
 have hnd:=h.nd
 rw [List.nodup_cons] at hnd
 have htm : ∀ c,c ∈ r ↔ (c < p.bs.length ∧ 0 < (gb p.bs c).marked) ∧ c ≠ old:=fun c=>by
  rw [← h.tm c,List.mem_cons]
  constructor
  ·intro hc
   exact ⟨.inr hc,fun e=>hnd.1 (by rw [← e]; exact hc)⟩
  ·rintro ⟨h1 | h1,h2⟩
   ·exact (h2 h1).elim
   ·exact h1
 by_cases hall : b.marked = b.size
 ·
  have hp : p.splitOne old = { p with bs:=p.bs.set old ⟨b.first,b.size,0,b.parent⟩ }:=by simp only [Pt.splitOne,hb,if_pos hall]
  rw [hp]
  have g : ∀ c,gb (p.bs.set old ⟨b.first,b.size,0,b.parent⟩) c = if old = c then ⟨b.first,b.size,0,b.parent⟩ else gb p.bs c:=fun c=>by rw [gb_set]; simp only [hol,and_true]
  have gf : ∀ c,(gb (p.bs.set old ⟨b.first,b.size,0,b.parent⟩) c).first = (gb p.bs c).first ∧ (gb (p.bs.set old ⟨b.first,b.size,0,b.parent⟩) c).size = (gb p.bs c).size ∧ (gb (p.bs.set old ⟨b.first,b.size,0,b.parent⟩) c).parent = (gb p.bs c).parent:=fun c=>by
   rw [g]
   split
   ·rename_i e; subst e; rw [hb]; exact ⟨rfl,rfl,rfl⟩
   ·exact ⟨rfl,rfl,rfl⟩
  refine ⟨⟨h.st,h.pl,h.bl,h.sp,h.ps,fun s hs=>by simpa using h.ib s hs,fun s hs=>?_,fun c hc=>?_,fun c hc i h1 h2=>?_,fun c=>?_,hnd.2⟩,fun s hs=>?_,fun s t hs ht=>?_,⟨rfl,by simp,fun c hc=>(gf c).2.2,fun s hs=>?_,fun c hc _=>.inl (by simpa using hc)⟩⟩
  ·show (gb (p.bs.set old _) (gt p.bl s)).first ≤ gt p.pl s ∧ gt p.pl s < (gb (p.bs.set old _) (gt p.bl s)).first + (gb (p.bs.set old _) (gt p.bl s)).size
   rw [(gf _).1,(gf _).2.1]; exact h.inn s hs
  ·show 0 < (gb (p.bs.set old _) c).size ∧ (gb (p.bs.set old _) c).marked ≤ (gb (p.bs.set old _) c).size ∧ (gb (p.bs.set old _) c).first + (gb (p.bs.set old _) c).size ≤ N
   have hc' : c < p.bs.length:=by simpa using hc
   rw [g]
   split
   ·simp only; omega
   ·exact h.bd c hc'
  ·have hc' : c < p.bs.length:=by simpa using hc
   exact h.own c hc' i (by rw [← (gf c).1]; exact h1) (by rw [← (gf c).1,← (gf c).2.1]; exact h2)
  ·show c ∈ r ↔ c < (p.bs.set old _).length ∧ 0 < (gb (p.bs.set old _) c).marked
   rw [htm,g,List.length_set]
   by_cases e : old = c
   ·subst e; simp
   ·rw [if_neg e]
    simp only [ne_eq,Ne.symm e,not_false_eq_true,and_true]
  ·show gt p.pl s < (gb (p.bs.set old _) (gt p.bl s)).first + (gb (p.bs.set old _) (gt p.bl s)).marked ↔ gt p.pl s < (gb p.bs (gt p.bl s)).first + (gb p.bs (gt p.bl s)).marked ∧ gt p.bl s ≠ old
   rw [g]
   have:=h.inn s hs
   by_cases e : old = gt p.bl s
   ·rw [if_pos e]
    rw [← e,hb] at this
    simp only [Nat.add_zero]
    constructor
    ·intro h1; omega
    ·intro h1; exact (h1.2 e.symm).elim
   ·rw [if_neg e]
    simp only [ne_eq,Ne.symm e,not_false_eq_true,and_true]
  ·show gt p.bl s = gt p.bl t ↔ _
   constructor
   ·intro e
    refine ⟨e,fun e2=>?_⟩
    have h1:=h.inn s hs
    have h2:=h.inn t ht
    unfold Pt.M
    rw [← e] at h2 ⊢
    rw [e2,hb] at h1 h2 ⊢
    constructor <;> intro _ <;> omega
   ·exact fun h=>h.1
  ·show (if p.low ≤ gt p.bl s then (gb (p.bs.set old _) (gt p.bl s)).parent else gt p.bl s) = p.base (gt p.bl s)
   rw [(gf _).2.2]; rfl
 ·
  obtain ⟨par,hpar⟩ : ∃ par,(if p.low ≤ old then b.parent else old) = par:=⟨_,rfl⟩
  have hp : p.splitOne old = { p with bs:=p.bs.set old ⟨b.first + b.marked,b.size - b.marked,0,b.parent⟩ ++ [⟨b.first,b.marked,0,par⟩],bl:=relabel p.st p.bs.length p.bl b.first b.marked }:=by simp only [Pt.splitOne,hb,if_neg hall,hpar]
  rw [hp]
  have g : ∀ c,gb (p.bs.set old ⟨b.first + b.marked,b.size - b.marked,0,b.parent⟩ ++ [⟨b.first,b.marked,0,par⟩]) c =
    if c < p.bs.length then (if old = c then ⟨b.first + b.marked,b.size - b.marked,0,b.parent⟩ else gb p.bs c) else if c = p.bs.length then ⟨b.first,b.marked,0,par⟩ else ⟨0,0,0,0⟩:=fun c=>by
   rw [gb_app,List.length_set,gb_set]; simp only [hol,and_true]
  have gpar : ∀ c,c < p.bs.length → (gb (p.bs.set old ⟨b.first + b.marked,b.size - b.marked,0,b.parent⟩ ++ [⟨b.first,b.marked,0,par⟩]) c).parent = (gb p.bs c).parent:=fun c hc=>by
   rw [g,if_pos hc]
   split
   ·rename_i e; subst e; rw [hb]
   ·rfl
  have gbl : ∀ t,t < N → gt (relabel p.st p.bs.length p.bl b.first b.marked) t = if b.first ≤ gt p.pl t ∧ gt p.pl t < b.first + b.marked then p.bs.length else gt p.bl t:=
   relabel_get p.bs.length h.sp h.ps b.marked b.first p.bl h.bl (by omega)
  have inold : ∀ t,t < N → b.first ≤ gt p.pl t ∧ gt p.pl t < b.first + b.size → gt p.bl t = old:=fun t ht hr=>by
   have:=h.own old hol (gt p.pl t) (by rw [hb]; exact hr.1) (by rw [hb]; exact hr.2)
   rw [(h.ps t ht).2] at this; exact this
  have oldin : ∀ t,t < N → gt p.bl t = old → b.first ≤ gt p.pl t ∧ gt p.pl t < b.first + b.size:=fun t ht e=>by
   have:=h.inn t ht
   rw [e,hb] at this; exact this
  have hpk : (⟨b.first,b.size,b.marked,b.parent⟩ : Blk) = b:=rfl
  have cases3 : ∀ t,t < N → (gt p.bl t = old ∧ p.M t ∧ (b.first ≤ gt p.pl t ∧ gt p.pl t < b.first + b.marked) ∧ gt (relabel p.st p.bs.length p.bl b.first b.marked) t = p.bs.length) ∨
    (gt p.bl t = old ∧ ¬ p.M t ∧ (b.first + b.marked ≤ gt p.pl t ∧ gt p.pl t < b.first + b.size) ∧ gt (relabel p.st p.bs.length p.bl b.first b.marked) t = old) ∨
    (gt p.bl t ≠ old ∧ gt (relabel p.st p.bs.length p.bl b.first b.marked) t = gt p.bl t):=fun t ht=>by
   by_cases e : gt p.bl t = old
   ·have h1:=oldin t ht e
    have hM : p.M t ↔ gt p.pl t < b.first + b.marked:=by unfold Pt.M; rw [e,hb]
    rw [gbl t ht]
    by_cases h2 : gt p.pl t < b.first + b.marked
    ·exact .inl ⟨e,hM.2 h2,⟨h1.1,h2⟩,if_pos ⟨h1.1,h2⟩⟩
    ·exact .inr (.inl ⟨e,fun h=>h2 (hM.1 h),⟨by omega,h1.2⟩,by rw [if_neg (fun h=>h2 h.2)]; exact e⟩)
   ·refine .inr (.inr ⟨e,?_⟩)
    rw [gbl t ht,if_neg (fun h3=>e (inold t ht ⟨h3.1,by omega⟩))]
  refine ⟨⟨h.st,h.pl,?_,h.sp,h.ps,fun s hs=>?_,fun s hs=>?_,fun c hc=>?_,fun c hc i h1 h2=>?_,fun c=>?_,hnd.2⟩,fun s hs=>?_,fun s t hs ht=>?_,⟨rfl,by simp,gpar,fun s hs=>?_,fun c hc hlc=>?_⟩⟩
  ·show (relabel _ _ _ _ _).length = N
   rw [relabel_len]; exact h.bl
  ·show gt (relabel p.st p.bs.length p.bl b.first b.marked) s < (p.bs.set old _ ++ [_]).length
   simp only [List.length_append,List.length_set,List.length_cons,List.length_nil]
   have:=h.ib s hs
   rcases cases3 s hs with ⟨_,_,_,e⟩ | ⟨_,_,_,e⟩ | ⟨_,e⟩ <;> rw [e] <;> omega
  ·show (gb (p.bs.set old _ ++ [_]) (gt (relabel p.st p.bs.length p.bl b.first b.marked) s)).first ≤ gt p.pl s ∧ gt p.pl s < (gb (p.bs.set old _ ++ [_]) (gt (relabel p.st p.bs.length p.bl b.first b.marked) s)).first + (gb (p.bs.set old _ ++ [_]) (gt (relabel p.st p.bs.length p.bl b.first b.marked) s)).size
   have hib:=h.ib s hs
   rcases cases3 s hs with ⟨_,_,hr,e⟩ | ⟨_,_,hr,e⟩ | ⟨hn,e⟩
   ·rw [e,g,if_neg (by omega),if_pos rfl]; exact hr
   ·rw [e,g,if_pos hol,if_pos rfl]; simp only; omega
   ·rw [e,g,if_pos hib,if_neg (Ne.symm hn)]; exact h.inn s hs
  ·show 0 < (gb (p.bs.set old _ ++ [_]) c).size ∧ (gb (p.bs.set old _ ++ [_]) c).marked ≤ (gb (p.bs.set old _ ++ [_]) c).size ∧ (gb (p.bs.set old _ ++ [_]) c).first + (gb (p.bs.set old _ ++ [_]) c).size ≤ N
   have hc : c < p.bs.length + 1:=by simpa using hc
   rw [g]
   split
   ·split
    ·simp only; omega
    ·exact h.bd c (by assumption)
   ·rw [if_pos (by omega)]; simp only; omega
  ·show gt (relabel p.st p.bs.length p.bl b.first b.marked) (gt p.st i) = c
   replace hc : c < p.bs.length + 1:=by simpa using hc
   replace h1 : (gb (p.bs.set old _ ++ [_]) c).first ≤ i:=h1
   replace h2 : i < (gb (p.bs.set old _ ++ [_]) c).first + (gb (p.bs.set old _ ++ [_]) c).size:=h2
   rw [g] at h1 h2
   split at h1
   ·rename_i hcl
    rw [if_pos hcl] at h2
    split at h1
    ·rename_i e
     rw [if_pos e] at h2
     simp only at h1 h2
     have hs:=h.sp i (by omega)
     rw [gbl _ hs.1,hs.2,if_neg (by omega)]
     rw [← e]
     exact h.own old hol i (by rw [hb]; omega) (by rw [hb]; omega)
    ·rename_i e
     rw [if_neg e] at h2
     have hcb:=h.bd c hcl
     have hs:=h.sp i (by omega)
     have hoc:=h.own c hcl i h1 h2
     rw [gbl _ hs.1,hs.2,if_neg,hoc]
     intro h3
     have:=inold _ hs.1 (by rw [hs.2]; omega)
     rw [hoc] at this
     exact e this.symm
   ·rename_i hcl
    have e : c = p.bs.length:=by omega
    rw [if_neg hcl,if_pos e] at h2
    rw [if_pos e] at h1
    simp only at h1 h2
    have hs:=h.sp i (by omega)
    rw [gbl _ hs.1,hs.2,if_pos ⟨h1,h2⟩,e]
  ·show c ∈ r ↔ c < (p.bs.set old _ ++ [_]).length ∧ 0 < (gb (p.bs.set old _ ++ [_]) c).marked
   rw [htm,g]
   simp only [List.length_append,List.length_set,List.length_cons,List.length_nil]
   by_cases e1 : c < p.bs.length
   ·rw [if_pos e1]
    by_cases e : old = c
    ·subst e; simp
    ·rw [if_neg e]
     have : c ≠ old:=Ne.symm e
     constructor
     ·rintro ⟨⟨_,h2⟩,_⟩; exact ⟨by omega,h2⟩
     ·rintro ⟨_,h2⟩; exact ⟨⟨e1,h2⟩,this⟩
   ·rw [if_neg e1]
    constructor
    ·rintro ⟨⟨h2,_⟩,_⟩; exact (e1 h2).elim
    ·rintro ⟨_,h2⟩
     split at h2
     ·simp at h2
     ·simp at h2
  ·show gt p.pl s < (gb (p.bs.set old _ ++ [_]) (gt (relabel p.st p.bs.length p.bl b.first b.marked) s)).first + (gb (p.bs.set old _ ++ [_]) (gt (relabel p.st p.bs.length p.bl b.first b.marked) s)).marked ↔ p.M s ∧ gt p.bl s ≠ old
   have hib:=h.ib s hs
   rcases cases3 s hs with ⟨ho,_,hr,e⟩ | ⟨ho,_,hr,e⟩ | ⟨hn,e⟩
   ·rw [e,g,if_neg (by omega),if_pos rfl]
    simp only [Nat.add_zero]
    constructor
    ·intro h1; omega
    ·intro h1; exact (h1.2 ho).elim
   ·rw [e,g,if_pos hol,if_pos rfl]
    simp only [Nat.add_zero]
    constructor
    ·intro h1; omega
    ·intro h1; exact (h1.2 ho).elim
   ·rw [e,g,if_pos hib,if_neg (Ne.symm hn)]
    exact ⟨fun h=>⟨h,hn⟩,fun h=>h.1⟩
  ·show gt (relabel p.st p.bs.length p.bl b.first b.marked) s = gt (relabel p.st p.bs.length p.bl b.first b.marked) t ↔ _
   have h1:=h.ib s hs
   have h2:=h.ib t ht
   rcases cases3 s hs with ⟨ho,hm,_,e⟩ | ⟨ho,hm,_,e⟩ | ⟨hn,e⟩ <;> rcases cases3 t ht with ⟨ho',hm',_,e'⟩ | ⟨ho',hm',_,e'⟩ | ⟨hn',e'⟩ <;> rw [e,e']
   ·exact ⟨fun _=>⟨ho.trans ho'.symm,fun _=>⟨fun _=>hm',fun _=>hm⟩⟩,fun _=>rfl⟩
   ·exact ⟨fun h3=>by omega,fun h3=>(hm' ((h3.2 ho).1 hm)).elim⟩
   ·exact ⟨fun h3=>by omega,fun h3=>(hn' (h3.1.symm.trans ho)).elim⟩
   ·exact ⟨fun h3=>by omega,fun h3=>(hm ((h3.2 ho).2 hm')).elim⟩
   ·exact ⟨fun _=>⟨ho.trans ho'.symm,fun _=>⟨fun h=>(hm h).elim,fun h=>(hm' h).elim⟩⟩,fun _=>rfl⟩
   ·exact ⟨fun h3=>(hn' h3.symm).elim,fun h3=>(hn' (h3.1.symm.trans ho)).elim⟩
   ·exact ⟨fun h3=>by omega,fun h3=>(hn (h3.1.trans ho')).elim⟩
   ·exact ⟨fun h3=>(hn h3).elim,fun h3=>(hn (h3.1.trans ho')).elim⟩
   ·exact ⟨fun h3=>⟨h3,fun h4=>(hn h4).elim⟩,fun h3=>h3.1⟩
  ·show (if p.low ≤ gt (relabel p.st p.bs.length p.bl b.first b.marked) s then (gb (p.bs.set old _ ++ [_]) (gt (relabel p.st p.bs.length p.bl b.first b.marked) s)).parent else gt (relabel p.st p.bs.length p.bl b.first b.marked) s) = p.base (gt p.bl s)
   have hib:=h.ib s hs
   rcases cases3 s hs with ⟨ho,_,hr,e⟩ | ⟨ho,_,hr,e⟩ | ⟨hn,e⟩
   ·rw [e,if_pos hlow,g,if_neg (by omega),if_pos rfl,ho]
    show par = p.base old
    rw [← hpar]; unfold Pt.base; rw [hb]
   ·rw [e,ho,gpar old hol]; rfl
   ·rw [e,gpar _ hib]; rfl
  ·have hc : c < p.bs.length + 1:=by simpa using hc
   by_cases e : c < p.bs.length
   ·exact .inl e
   ·refine .inr ⟨old,hol,?_⟩
    show (gb (p.bs.set old _ ++ [_]) c).parent = _
    rw [g,if_neg e,if_pos (by omega)]
    show par = _
    rw [← hpar]; unfold Pt.base; rw [hb]
theorem fold_ok {N : Nat} : ∀ (todo : List Nat) (p : Pt),p.low ≤ p.bs.length → PI p N todo → PI (todo.foldl Pt.splitOne p) N [] ∧
  (∀ s t,s < N → t < N → (gt (todo.foldl Pt.splitOne p).bl s = gt (todo.foldl Pt.splitOne p).bl t ↔ gt p.bl s = gt p.bl t ∧ (p.M s ↔ p.M t))) ∧ PH p (todo.foldl Pt.splitOne p) N
 | [],p,_,h=>by
   have hM : ∀ s,s < N → ¬ p.M s:=fun s hs hm=>by
    have h1:=h.ib s hs
    have h2:=(h.tm (gt p.bl s))
    have h3:=h.inn s hs
    unfold Pt.M at hm
    have:=h2.2 ⟨h1,by omega⟩
    cases this
   exact ⟨h,fun s t hs ht=>⟨fun e=>⟨e,fun h=>(hM s hs h).elim,fun h=>(hM t ht h).elim⟩,fun e=>e.1⟩,PH.refl _ _⟩
 | old :: r,p,hl,h=>by
   obtain ⟨h1,h2,h3,h4⟩:=splitOne_ok hl h
   have hl' : (p.splitOne old).low ≤ (p.splitOne old).bs.length:=by
    have : (p.splitOne old).low = p.low:=by unfold Pt.low; rw [h4.cs]
    rw [this]; exact Nat.le_trans hl h4.len
   obtain ⟨k1,k2,k3⟩:=fold_ok r (p.splitOne old) hl' h1
   refine ⟨k1,fun s t hs ht=>?_,h4.trans hl k3⟩
   rw [List.foldl_cons,k2 s t hs ht,h3 s t hs ht,h2 s hs,h2 t ht]
   constructor
   ·rintro ⟨⟨e,e2⟩,e3⟩
    refine ⟨e,?_⟩
    by_cases ho : gt p.bl s = old
    ·exact e2 ho
    ·have ho' : gt p.bl t ≠ old:=fun h=>ho (e.trans h)
     exact ⟨fun h=>(e3.1 ⟨h,ho⟩).1,fun h=>(e3.2 ⟨h,ho'⟩).1⟩
   ·rintro ⟨e,e3⟩
    refine ⟨⟨e,fun _=>e3⟩,?_⟩
    rw [e3,e]
theorem PI.ml {p : Pt} {N : Nat} {todo ml : List Nat} (h : PI p N todo) : PI { p with ml:=ml } N todo:=⟨h.st,h.pl,h.bl,h.sp,h.ps,h.ib,h.inn,h.bd,h.own,h.tm,h.nd⟩
theorem split_ok {p : Pt} {N : Nat} (hl : p.low ≤ p.bs.length) (h : PI p N p.ml) : PI p.split N p.split.ml ∧ (∀ s t,s < N → t < N → (gt p.split.bl s = gt p.split.bl t ↔ gt p.bl s = gt p.bl t ∧ (p.M s ↔ p.M t))) ∧ PH p p.split N ∧ p.split.ml = []:=by
 obtain ⟨h1,h2,h3⟩:=fold_ok p.ml p hl h
 exact ⟨h1.ml,h2,⟨h3.cs,h3.len,h3.par,h3.base,h3.low⟩,rfl⟩
theorem unmarked {p : Pt} {N : Nat} (h : PI p N []) (s : Nat) (hs : s < N) : ¬ p.M s:=fun hm=>by
 have h1:=h.ib s hs
 have h3:=h.inn s hs
 unfold Pt.M at hm
 have:=(h.tm (gt p.bl s)).2 ⟨h1,by omega⟩
 cases this
end Go.Proofs.YthcoppfiahnpoaaGreat
namespace Go.Proofs.YthcoppfiahnpoaaGreat
structure Mk (p0 p : Pt) (N : Nat) (X : Nat → Prop) : Prop where
 pi : PI p N p.ml
 bl : p.bl = p0.bl
 cs : p.cs = p0.cs
 len : p.bs.length = p0.bs.length
 fs : ∀ b,(gb p.bs b).first = (gb p0.bs b).first ∧ (gb p.bs b).size = (gb p0.bs b).size ∧ (gb p.bs b).parent = (gb p0.bs b).parent
 m : ∀ s,s < N → (p.M s ↔ X s)
theorem Mk.start {p : Pt} {N : Nat} (h : PI p N p.ml) (h0 : p.ml = []) : Mk p p N (fun _=>False):=
 ⟨h,rfl,rfl,rfl,fun _=>⟨rfl,rfl,rfl⟩,fun s hs=>⟨fun hm=>unmarked (by rw [h0] at h; exact h) s hs hm,False.elim⟩⟩
theorem Mk.step {p0 p : Pt} {N : Nat} {X : Nat → Prop} (h : Mk p0 p N X) {s : Nat} (hs : s < N) (hx : ¬ X s) : Mk p0 (p.mark s) N (fun t=>X t ∨ t = s):=by
 obtain ⟨h1,h2⟩:=mark_ok h.pi hs (fun hm=>hx ((h.m s hs).1 hm))
 refine ⟨h1,h.bl,h.cs,by simpa [Pt.mark] using h.len,fun b=>?_,fun t ht=>by rw [h2 t ht,h.m t ht]⟩
 have:=h.fs b
 simp only [Pt.mark]
 rw [gb_set]
 split
 ·rename_i e
  rw [← e.1] at this ⊢
  exact this
 ·exact this
theorem Mk.imp {p0 p : Pt} {N : Nat} {X Y : Nat → Prop} (h : Mk p0 p N X) (hxy : ∀ s,s < N → (X s ↔ Y s)) : Mk p0 p N Y:=⟨h.pi,h.bl,h.cs,h.len,h.fs,fun s hs=>(h.m s hs).trans (hxy s hs)⟩
theorem Mk.ph {p0 p : Pt} {N : Nat} {X : Nat → Prop} (h : Mk p0 p N X) : PH p0 p N:=by
 have hl : p.low = p0.low:=by unfold Pt.low; rw [h.cs]
 exact ⟨h.cs,Nat.le_of_eq h.len.symm,fun b _=>(h.fs b).2.2,fun s _=>by unfold Pt.base; rw [hl,(h.fs _).2.2,h.bl],fun b hb _=>.inl (by rw [← h.len]; exact hb)⟩
theorem Mk.split {p0 p : Pt} {N : Nat} {X : Nat → Prop} (hl : p0.low ≤ p0.bs.length) (h : Mk p0 p N X) : PI p.split N p.split.ml ∧ p.split.ml = [] ∧ PH p0 p.split N ∧
  ∀ s t,s < N → t < N → (gt p.split.bl s = gt p.split.bl t ↔ gt p0.bl s = gt p0.bl t ∧ (X s ↔ X t)):=by
 have hl' : p.low ≤ p.bs.length:=by
  have : p.low = p0.low:=by unfold Pt.low; rw [h.cs]
  rw [this,h.len]; exact hl
 obtain ⟨h1,h2,h3,h4⟩:=split_ok hl' h.pi
 exact ⟨h1,h4,h.ph.trans hl h3,fun s t hs ht=>by rw [h2 s t hs ht,h.bl,h.m s hs,h.m t ht]⟩
section
variable (N L : Nat) (dl : Nat → Nat → Nat) (en : Nat → Bool)
def rnG (s : Nat) (w : List Nat) : Nat:=w.foldl dl s
def EqG (k s t : Nat) : Prop:=∀ w,Word L w → w.length < k → en (rnG dl s w) = en (rnG dl t w)
end
section
variable {N L : Nat} {dl : Nat → Nat → Nat} {en : Nat → Bool}
theorem EqG.zero (s t : Nat) : EqG L dl en 0 s t:=fun _ _ h=>by omega
theorem EqG.mono {j k s t : Nat} (h : EqG L dl en k s t) (hj : j ≤ k) : EqG L dl en j s t:=fun w hw hl=>h w hw (by omega)
theorem EqG.one {s t : Nat} : EqG L dl en 1 s t ↔ en s = en t:=
 ⟨fun h=>h [] (Word.nil _) (by simp),fun h w _ hl=>by
  have : w = []:=by cases w with
   | nil=>rfl
   | cons c r=>simp at hl
  subst this; exact h⟩
theorem EqG.succ {k s t : Nat} : EqG L dl en (k + 1) s t ↔ en s = en t ∧ ∀ c,c < L → EqG L dl en k (dl s c) (dl t c):=
 ⟨fun h=>⟨EqG.one.1 (h.mono (by omega)),fun c hc w hw hl=>h (c :: w) (Word.cons hc hw) (by simpa using hl)⟩,fun h w hw hl=>by
  cases w with
  | nil=>exact h.1
  | cons c w=>exact h.2 c hw.head w hw.tail (by simpa using hl)⟩
theorem EqG.stable {k : Nat} (hdl : ∀ s c,s < N → c < L → dl s c < N) (h : ∀ s t,s < N → t < N → EqG L dl en k s t → EqG L dl en (k + 1) s t) :
  ∀ j s t,s < N → t < N → EqG L dl en k s t → EqG L dl en (k + j) s t
 | 0,s,t,hs,ht,e=>e
 | j + 1,s,t,hs,ht,e=>by
   have h1:=EqG.succ.1 (h s t hs ht e)
   show EqG L dl en (k + j + 1) s t
   exact EqG.succ.2 ⟨h1.1,fun c hc=>EqG.stable hdl h j _ _ (hdl s c hs hc) (hdl t c ht hc) (h1.2 c hc)⟩
end
def upB (bs : List Blk) (c b : Nat) : Nat:=if c ≤ b then (gb bs b).parent else b
structure Lev (L : Nat) (dl : Nat → Nat → Nat) (en : Nat → Bool) (p : Pt) (N : Nat) (lev : Nat → Nat → Nat) (R : Nat) : Prop where
 cs : p.cs.length = R + 1
 mono : ∀ r,r < R → gt p.cs r ≤ gt p.cs (r + 1)
 top : gt p.cs R ≤ p.bs.length
 lt : ∀ r,r ≤ R → ∀ s,s < N → lev r s < gt p.cs r
 dn : ∀ r,r < R → ∀ s,s < N → lev r s = upB p.bs (gt p.cs r) (lev (r + 1) s)
 par : ∀ r,r < R → ∀ b,gt p.cs r ≤ b → b < gt p.cs (r + 1) → (gb p.bs b).parent < gt p.cs r
 parT : ∀ b,gt p.cs R ≤ b → b < p.bs.length → (gb p.bs b).parent < gt p.cs R
 cur : ∀ s,s < N → upB p.bs (gt p.cs R) (gt p.bl s) = lev R s
 sem : ∀ r,r ≤ R → ∀ s t,s < N → t < N → (lev r s = lev r t ↔ EqG L dl en r s t)
section
variable {N L R : Nat} {dl : Nat → Nat → Nat} {en : Nat → Bool} {p q : Pt} {lev : Nat → Nat → Nat}
theorem Lev.low (h : Lev L dl en p N lev R) : p.low = gt p.cs R:=by unfold Pt.low; rw [h.cs]; rfl
theorem Lev.lowLe (h : Lev L dl en p N lev R) : p.low ≤ p.bs.length:=by rw [h.low]; exact h.top
theorem Lev.monoLe (h : Lev L dl en p N lev R) : ∀ j r,r + j ≤ R → gt p.cs r ≤ gt p.cs (r + j)
 | 0,r,_=>Nat.le_refl _
 | j + 1,r,hr=>Nat.le_trans (h.monoLe j r (by omega)) (h.mono (r + j) (by omega))
theorem Lev.csLe (h : Lev L dl en p N lev R) {r : Nat} (hr : r ≤ R) : gt p.cs r ≤ p.bs.length:=by
 have:=h.monoLe (R - r) r (by omega)
 rw [show r + (R - r) = R by omega] at this
 exact Nat.le_trans this h.top
theorem Lev.keep (h : Lev L dl en p N lev R) (k : PH p q N) : Lev L dl en q N lev R:=by
 have hl : q.low = p.low:=by unfold Pt.low; rw [k.cs]
 have hlow:=h.low
 have up : ∀ c b,b < p.bs.length → upB q.bs c b = upB p.bs c b:=fun c b hb=>by unfold upB; rw [k.par b hb]
 refine ⟨by rw [k.cs]; exact h.cs,by rw [k.cs]; exact h.mono,by rw [k.cs]; exact Nat.le_trans h.top k.len,by rw [k.cs]; exact h.lt,fun r hr s hs=>?_,fun r hr b h1 h2=>?_,fun b h1 h2=>?_,fun s hs=>?_,h.sem⟩
 ·rw [k.cs,up _ _ (Nat.lt_of_lt_of_le (h.lt (r + 1) (by omega) s hs) (h.csLe (by omega)))]
  exact h.dn r hr s hs
 ·rw [k.cs] at h1 h2 ⊢
  rw [k.par b (Nat.lt_of_lt_of_le h2 (h.csLe (by omega)))]
  exact h.par r hr b h1 h2
 ·rw [k.cs] at h1 ⊢
  have hb : ∀ c,c < p.bs.length → p.base c < gt p.cs R:=fun c hc=>by
   unfold Pt.base
   rw [hlow]
   split
   ·rename_i e; exact h.parT c e hc
   ·omega
  rcases k.low b h2 (by rw [hlow]; exact h1) with h3 | ⟨c,h3,h4⟩
  ·rw [k.par b h3]; exact h.parT b h1 h3
  ·rw [h4]; exact hb c h3
 ·have e1 : upB q.bs (gt q.cs R) (gt q.bl s) = q.base (gt q.bl s):=by unfold Pt.base upB; rw [hl,hlow,k.cs]
  have e2 : upB p.bs (gt p.cs R) (gt p.bl s) = p.base (gt p.bl s):=by unfold Pt.base upB; rw [hlow]
  rw [e1,k.base s hs,← e2]; exact h.cur s hs
def Pt.endR (p : Pt) : Pt:={ p with cs:=p.cs ++ [p.bs.length] }
theorem gt_snoc {l : List Nat} {v r : Nat} (h : r < l.length) : gt (l ++ [v]) r = gt l r:=by rw [gt_app,if_pos h]
theorem gt_snoc' {l : List Nat} {v : Nat} : gt (l ++ [v]) l.length = v:=by rw [gt_app,if_neg (by omega)]; simp
theorem Lev.endR (h : Lev L dl en p N lev R) (hib : ∀ s,s < N → gt p.bl s < p.bs.length) (hsem : ∀ s t,s < N → t < N → (gt p.bl s = gt p.bl t ↔ EqG L dl en (R + 1) s t)) :
  Lev L dl en p.endR N (fun r s=>if r ≤ R then lev r s else gt p.bl s) (R + 1) ∧ gt p.endR.cs (R + 1) = p.bs.length ∧ gt p.endR.cs R = gt p.cs R:=by
 have hc:=h.cs
 have g1 : ∀ r,r ≤ R → gt p.endR.cs r = gt p.cs r:=fun r hr=>gt_snoc (by omega)
 have g2 : gt p.endR.cs (R + 1) = p.bs.length:=by
  show gt (p.cs ++ [p.bs.length]) (R + 1) = _
  rw [← hc]; exact gt_snoc'
 refine ⟨⟨by simp [Pt.endR,hc],fun r hr=>?_,by rw [g2]; exact Nat.le_refl _,fun r hr s hs=>?_,fun r hr s hs=>?_,fun r hr b h1 h2=>?_,fun b h1 h2=>?_,fun s hs=>?_,fun r hr s t hs' ht'=>?_⟩,g2,g1 R (Nat.le_refl _)⟩
 ·rw [g1 r (by omega)]
  by_cases e : r = R
  ·subst e; rw [g2]; exact h.top
  ·rw [g1 (r + 1) (by omega)]; exact h.mono r (by omega)
 ·by_cases e : r ≤ R
  ·simp only [if_pos e]; rw [g1 r e]; exact h.lt r e s hs
  ·simp only [if_neg e]
   rw [show r = R + 1 by omega,g2]; exact hib s hs
 ·have e0 : r ≤ R:=by omega
  simp only [if_pos e0]
  rw [g1 r e0]
  by_cases e : r = R
  ·subst e
   rw [if_neg (by omega)]
   exact (h.cur s hs).symm
  ·rw [if_pos (by omega)]
   exact h.dn r (by omega) s hs
 ·rw [g1 r (by omega)] at h1 ⊢
  by_cases e : r = R
  ·subst e
   rw [g2] at h2
   exact h.parT b h1 h2
  ·rw [g1 (r + 1) (by omega)] at h2
   exact h.par r (by omega) b h1 h2
 ·rw [g2] at h1
  have h2 : b < p.bs.length:=h2
  omega
 ·rw [g2]
  simp only [if_neg (show ¬ R + 1 ≤ R by omega)]
  unfold upB
  exact if_neg (Nat.not_le.2 (hib s hs))
 ·by_cases e : r ≤ R
  ·simp only [if_pos e]; exact h.sem r e s t hs' ht'
  ·simp only [if_neg e]
   rw [show r = R + 1 by omega]; exact hsem s t hs' ht'
def Tells (p : Pt) (R : Nat) (B : List Nat) : Prop:=∀ x y,x < gt p.cs R → y < gt p.cs R → x ≠ y → upB p.bs (gt p.cs (R - 1)) x = upB p.bs (gt p.cs (R - 1)) y → x ∈ B ∨ y ∈ B
theorem round_sem {B : List Nat} (hdl : ∀ s c,s < N → c < L → dl s c < N) (h : Lev L dl en p N lev R) (hR : 0 < R) (hB : Tells p R B) {s t : Nat} (hs : s < N) (ht : t < N) :
  (lev R s = lev R t ∧ ∀ b ∈ B,∀ c,c < L → (lev R (dl s c) = b ↔ lev R (dl t c) = b)) ↔ EqG L dl en (R + 1) s t:=by
 constructor
 ·rintro ⟨h1,h2⟩
  have e1:=(h.sem R (Nat.le_refl _) s t hs ht).1 h1
  refine EqG.succ.2 ⟨EqG.one.1 (e1.mono (by omega)),fun c hc=>?_⟩
  have hs':=hdl s c hs hc
  have ht':=hdl t c ht hc
  refine (h.sem R (Nat.le_refl _) _ _ hs' ht').1 ?_
  refine Decidable.byContradiction fun hne=>?_
  obtain ⟨k,rfl⟩ : ∃ k,R = k + 1:=⟨R - 1,by omega⟩
  have e2:=(h.sem k (by omega) _ _ hs' ht').2 ((EqG.succ.1 e1).2 c hc)
  rw [h.dn k (by omega) _ hs',h.dn k (by omega) _ ht'] at e2
  rcases hB _ _ (h.lt _ (Nat.le_refl _) _ hs') (h.lt _ (Nat.le_refl _) _ ht') hne e2 with hb | hb
  ·exact hne ((h2 _ hb c hc).1 rfl).symm
  ·exact hne ((h2 _ hb c hc).2 rfl)
 ·intro e
  refine ⟨(h.sem R (Nat.le_refl _) s t hs ht).2 (e.mono (by omega)),fun b _ c hc=>?_⟩
  have:=(h.sem R (Nat.le_refl _) _ _ (hdl s c hs hc) (hdl t c ht hc)).2 ((EqG.succ.1 e).2 c hc)
  rw [this]
theorem Lev.still (h : Lev L dl en p N lev (R + 1)) (hdl : ∀ s c,s < N → c < L → dl s c < N) (he : gt p.cs (R + 1) = gt p.cs R) {s t : Nat} (hs : s < N) (ht : t < N) :
  lev (R + 1) s = lev (R + 1) t ↔ ∀ w,Word L w → en (rnG dl s w) = en (rnG dl t w):=by
 have same : ∀ s,s < N → lev R s = lev (R + 1) s:=fun s hs=>by
  have h1:=h.dn R (by omega) s hs
  have h2:=h.lt (R + 1) (Nat.le_refl _) s hs
  unfold upB at h1
  rw [if_neg (by omega)] at h1
  exact h1
 have st : ∀ s t,s < N → t < N → EqG L dl en R s t → EqG L dl en (R + 1) s t:=fun s t hs ht e=>by
  rw [← h.sem _ (by omega) s t hs ht,same s hs,same t ht] at e
  exact (h.sem _ (Nat.le_refl _) s t hs ht).1 e
 constructor
 ·intro e w hw
  have e1:=(h.sem R (by omega) s t hs ht).1 (by rw [same s hs,same t ht]; exact e)
  exact EqG.stable hdl st (w.length + 1) s t hs ht e1 w hw (by omega)
 ·intro e
  exact (h.sem _ (Nat.le_refl _) s t hs ht).2 fun w hw _=>e w hw
theorem Lev.start (hp : p.cs = [1]) (hb : p.bs.length = 1) (hbl : ∀ s,s < N → gt p.bl s = 0) : Lev L dl en p N (fun _ _=>0) 0:=
 ⟨by rw [hp]; rfl,fun r hr=>by omega,by rw [hp,hb]; exact Nat.le_refl _,fun r hr s hs=>by rw [show r = 0 by omega,hp]; exact Nat.zero_lt_one,fun r hr=>by omega,fun r hr=>by omega,
  fun b h1 h2=>by rw [hp] at h1; have : 1 ≤ b:=h1; omega,fun s hs=>by
   unfold upB
   rw [hbl s hs,hp,if_neg (by decide)],fun r hr s t _ _=>by
   rw [show r = 0 by omega]
   exact ⟨fun _=>EqG.zero _ _,fun _=>rfl⟩⟩
theorem PI.few {todo : List Nat} (h : PI p N todo) : p.bs.length ≤ N:=by
 have inj : ∀ b c,b < p.bs.length → c < p.bs.length → gt p.st (gb p.bs b).first = gt p.st (gb p.bs c).first → b = c:=fun b c hb hc e=>by
  have h1:=h.own b hb (gb p.bs b).first (Nat.le_refl _) (by have:=h.bd b hb; omega)
  have h2:=h.own c hc (gb p.bs c).first (Nat.le_refl _) (by have:=h.bd c hc; omega)
  rw [← h1,e,h2]
 have hn : ((List.range p.bs.length).map fun b=>gt p.st (gb p.bs b).first).Nodup:=by
  rw [List.nodup_iff_pairwise_ne,List.pairwise_map]
  refine List.Pairwise.imp_of_mem ?_ (List.nodup_iff_pairwise_ne.1 List.nodup_range)
  intro a b ha hb hab e
  exact hab (inj a b (List.mem_range.1 ha) (List.mem_range.1 hb) e)
 have hsub : ((List.range p.bs.length).map fun b=>gt p.st (gb p.bs b).first) ⊆ List.range N:=fun x hx=>by
  obtain ⟨b,hb,rfl⟩:=List.mem_map.1 hx
  have hb:=List.mem_range.1 hb
  have:=h.bd b hb
  exact List.mem_range.2 (h.sp _ (by omega)).1
 have:=hn.length_le_of_subset hsub
 simpa using this
theorem Lev.back (h : Lev L dl en p N lev R) {r s : Nat} (hs : s < N) : ∀ (k q : Nat),q = r + k → q ≤ R → gt p.cs r ≤ lev q s → ∃ q',r ≤ q' ∧ q' < q ∧ (gb p.bs (lev q s)).parent = lev q' s
 | 0,q,e,hq,hc=>by
   have:=h.lt q hq s hs
   have e : q = r:=by omega
   rw [e] at this hc; omega
 | k + 1,q,e,hq,hc=>by
   have hd:=h.dn (r + k) (by omega) s hs
   rw [show r + k + 1 = q by omega] at hd
   unfold upB at hd
   split at hd
   ·exact ⟨r + k,by omega,by omega,hd.symm⟩
   ·obtain ⟨q',h1,h2,h3⟩:=h.back hs k (r + k) rfl (by omega) (by rw [hd]; exact hc)
    exact ⟨q',h1,by omega,by rw [← hd]; exact h3⟩
theorem Lev.there (h : Lev L dl en p N lev R) {r s : Nat} (hs : s < N) : ∀ (k q : Nat),q = r + k → q ≤ R → lev q s < gt p.cs r → lev q s = lev r s
 | 0,q,e,_,_=>by rw [show q = r by omega]
 | k + 1,q,e,hq,hc=>by
   have hd:=h.dn (r + k) (by omega) s hs
   rw [show r + k + 1 = q by omega] at hd
   have hm:=h.monoLe k r (by omega)
   unfold upB at hd
   rw [if_neg (by omega)] at hd
   rw [← hd]
   exact h.there hs k (r + k) rfl (by omega) (by rw [hd]; exact hc)
end
end Go.Proofs.YthcoppfiahnpoaaGreat
namespace Go.Proofs.YthcoppfiahnpoaaGreat
open Go Sym
abbrev nats (l : List Nat) : List Value:=l.map fun (n : Nat)=>Vi n
abbrev n32s (l : List Nat) : List Value:=l.map fun (n : Nat)=>.int .i32 (n : Int)
abbrev oN (v : Value) (l : List Nat) : Ow:=⟨v,3,1,l.length,nats l⟩
abbrev oS (v : Value) (l : List Nat) : Ow:=⟨v,21,1,l.length,n32s l⟩
abbrev oX (T b k : Nat) (vs : List Value) : Ow:=⟨Vs b 1 1,T,k,1,vs⟩
def blkCells (l : List Blk) : List Value:=l.flatMap fun b=>[Vi b.first,Vi b.size,Vi b.marked,Vi b.parent]
abbrev oK (v : Value) (l : List Blk) : Ow:=⟨v,91,4,l.length,blkCells l⟩
structure Hold (base : Nat) (w0 w : World) (l : List Ow) : Prop where
 r : Rows base w l
 b : RowKit.Below base w0 w
 s : base ≤ w.heap.size
theorem nats_get (l : List Nat) {j : Nat} (hj : j < l.length) : (nats l)[j]? = some (Vi (gt l j : Int)):=by
 simp [gt,List.getD_eq_getElem?_getD,hj]
theorem n32s_get (l : List Nat) {j : Nat} (hj : j < l.length) : (n32s l)[j]? = some (.int .i32 (gt l j : Int)):=by
 simp [gt,List.getD_eq_getElem?_getD,hj]
theorem nats_set (l : List Nat) (j x : Nat) : (nats l).set j (Vi x) = nats (l.set j x):=by simp [nats,List.map_set]
theorem n32s_set (l : List Nat) (j x : Nat) : (n32s l).set j (.int .i32 (x : Int)) = n32s (l.set j x):=by simp [n32s,List.map_set]
theorem blk_get : ∀ (l : List Blk) (j : Nat),j < l.length → (blkCells l)[j * 4]? = some (Vi ((gb l j).first : Int)) ∧ (blkCells l)[j * 4 + 1]? = some (Vi ((gb l j).size : Int)) ∧ (blkCells l)[j * 4 + 2]? = some (Vi ((gb l j).marked : Int)) ∧ (blkCells l)[j * 4 + 3]? = some (Vi ((gb l j).parent : Int))
 | [],j,h=>by simp at h
 | b :: r,0,_=>⟨rfl,rfl,rfl,rfl⟩
 | b :: r,j + 1,h=>by
   have:=blk_get r j (by simpa using h)
   rw [show (j + 1) * 4 = j * 4 + 4 by omega]
   simpa [blkCells,gb] using this
theorem blk_app (l : List Blk) (b : Blk) : blkCells l ++ [Vi b.first,Vi b.size,Vi b.marked,Vi b.parent] = blkCells (l ++ [b]):=by simp [blkCells]
theorem blk_set : ∀ (l : List Blk) (j : Nat) (x : Nat),(blkCells l).set (j * 4) (Vi x) = blkCells (l.set j { gb l j with first:=x }) ∧ (blkCells l).set (j * 4 + 1) (Vi x) = blkCells (l.set j { gb l j with size:=x }) ∧
  (blkCells l).set (j * 4 + 2) (Vi x) = blkCells (l.set j { gb l j with marked:=x }) ∧ (blkCells l).set (j * 4 + 3) (Vi x) = blkCells (l.set j { gb l j with parent:=x })
 | [],j,_=>by simp [blkCells]
 | b :: r,0,_=>⟨rfl,rfl,rfl,rfl⟩
 | b :: r,j + 1,x=>by
   have:=blk_set r j x
   rw [show (j + 1) * 4 = j * 4 + 4 by omega]
   simpa [blkCells,gb] using this
section
variable {base : Nat} {w0 w w' : World} {l : List Ow}
theorem Rows.lenV (h : Rows base w l) {i g n n' c e s : Nat} {xs : List Value} (hi : l[i]? = some ⟨Vs g n c,e,s,n',xs⟩) : n = n':=h.len hi
theorem Rows.cellV (h : Rows base w l) {i g n n' c e s : Nat} {xs : List Value} (hi : l[i]? = some ⟨Vs g n c,e,s,n',xs⟩) {j : Nat} {u : Value} (hj : xs[j]? = some u) : w.cell? ⟨g,0 + j,none⟩ = some u:=by
 obtain rfl:=h.len hi
 have:=h.1 i _ hi
 rw [Nat.zero_add,World.ownsRow.cellAt this j (by rw [← this.1]; exact (List.getElem?_eq_some_iff.1 hj).1)]
 exact hj
theorem Rows.storeV (h : Rows base w l) {i g n n' c e s : Nat} {xs : List Value} (hi : l[i]? = some ⟨Vs g n c,e,s,n',xs⟩) (j : Nat) (u : Value) :
  Rows base (w.setCell ⟨g,0 + j,none⟩ u) (l.set i ⟨Vs g n c,e,s,n',xs.set j u⟩) ∧ w.grownBy (w.setCell ⟨g,0 + j,none⟩ u) (some g):=by
 obtain rfl:=h.len hi
 rw [Nat.zero_add]
 obtain ⟨h1,h2⟩:=World.ownsRow.stored (h.1 i _ hi) j u
 exact ⟨h.turn hi h2 h1 (.inl rfl),h2⟩
theorem Rows.xcell (h : Rows base w l) {i T b k : Nat} {vs : List Value} (hi : l[i]? = some (oX T b k vs)) {j : Nat} {u : Value} (hj : vs[j]? = some u) : w.cell? ⟨b,j,none⟩ = some u:=by
 have:=h.cellV hi hj
 rwa [Nat.zero_add] at this
theorem Rows.free (h : Rows base w l) {i g n n' c e s : Nat} {xs : List Value} (hi : l[i]? = some ⟨Vs g n c,e,s,n',xs⟩) (j : Nat) : w.frozen? ⟨g,j,none⟩ = false:=by
 have:=h.freeI hi j
 rwa [Nat.zero_add] at this
theorem Hold.start (w : World) : Hold w.heap.size w w []:=⟨Rows.nil _ _,RowKit.Below.refl _ _,Nat.le_refl _⟩
theorem Hold.drew (h : Hold base w0 w l) : Hold base w0 w.drew l:=⟨h.r,h.b.drew,h.s⟩
theorem Hold.below (h : Hold base w0 w l) (hb : RowKit.Below w.heap.size w w') : Hold base w0 w' l:=
 ⟨h.r.below hb,h.b.trans (hb.mono h.s),Nat.le_trans h.s hb.size⟩
theorem Hold.store (h : Hold base w0 w l) {i g n n' c e s : Nat} {xs : List Value} (hi : l[i]? = some ⟨Vs g n c,e,s,n',xs⟩) (j : Nat) (u : Value) :
  Hold base w0 (w.setCell ⟨g,0 + j,none⟩ u) (l.set i ⟨Vs g n c,e,s,n',xs.set j u⟩):=by
 obtain ⟨h1,h2⟩:=h.r.storeV hi j u
 exact ⟨h1,h.r.low hi h.b h.s h2,Nat.le_trans h.s h2.size⟩
theorem Hold.xstore (h : Hold base w0 w l) {i T b k : Nat} {vs : List Value} (hi : l[i]? = some (oX T b k vs)) (j : Nat) (u : Value) : Hold base w0 (w.setCell ⟨b,j,none⟩ u) (l.set i (oX T b k (vs.set j u))):=by
 have:=h.store hi j u
 rwa [Nat.zero_add] at this
theorem Hold.app {v v' : Value} {e s n m : Nat} {xs news : List Value} (h : Hold base w0 w l) {i : Nat} (hi : l[i]? = some ⟨v,e,s,n,xs⟩) (hown : w'.ownsRow base e s v' (n + m) (xs ++ news)) (hgr : w.grownBy w' v.ownBlock)
  (hat : v'.ownBlock = v.ownBlock ∨ v'.ownBlock = some w.heap.size) : Hold base w0 w' (l.set i ⟨v',e,s,n + m,xs ++ news⟩):=
 ⟨h.r.turn hi hgr hown (hat.imp id fun e=>⟨_,e,Nat.le_refl _⟩),h.r.low hi h.b h.s hgr,Nat.le_trans h.s hgr.size⟩
theorem Hold.alloc (h : Hold base w0 w l) (o : Obj) : Hold base w0 (w.alloc o) l:=h.below (below_alloc _ _)
theorem Hold.new (h : Hold base w0 w l) (hg : w.grownBy w' none) {o : Ow} (ho : o.ok base w') (hat : o.v.ownBlock = none ∨ ∃ k,o.v.ownBlock = some k ∧ w.heap.size ≤ k) : Hold base w0 w' (o :: l):=
 ⟨h.r.new hg ho hat,h.b.trans ⟨hg.os,hg.tape,hg.output,hg.size,fun k hk=>hg.block k (Nat.lt_of_lt_of_le hk h.s) (by simp)⟩,Nat.le_trans h.s hg.size⟩
theorem Hold.lit (h : Hold base w0 w l) {e s n : Nat} (cs : Array Value) (hs : cs.size = n * s) (hn : n ≤ 9223372036854775807) : Hold base w0 (w.alloc (.cells cs e)) (⟨Vs w.heap.size n n,e,s,n,cs.toList⟩ :: l):=
 h.new (World.grownBy_alloc w _ none) (World.ownsRow_lit w cs n h.s (by unfold maxLen; exact hn) hs) (.inr ⟨_,rfl,Nat.le_refl _⟩)
theorem Hold.box (h : Hold base w0 w l) {T k : Nat} (cs : Array Value) (hs : cs.size = k) : Hold base w0 (w.alloc (.cells cs T)) (oX T w.heap.size k cs.toList :: l):=h.lit cs (by omega) (by decide)
theorem Hold.tail {o : Ow} (h : Hold base w0 w (o :: l)) : Hold base w0 w l:=⟨h.r.tail,h.b,h.s⟩
theorem Hold.swap {a b : Ow} (h : Hold base w0 w (a :: b :: l)) : Hold base w0 w (b :: a :: l):=⟨h.r.cons2,h.b,h.s⟩
theorem Rows.nilOr (h : Rows base w l) {i : Nat} {v : Value} {e s n : Nat} {xs : List Value} (hi : l[i]? = some ⟨v,e,s,n,xs⟩) (h0 : 0 < n) : ∃ g c,v = Vs g n c ∧ n ≤ c ∧ c ≤ 9223372036854775807:=by
 rcases h.form hi with ⟨_,h1⟩ | h1
 ·omega
 ·exact h1
theorem Rows.any (h : Rows base w l) {i : Nat} {v : Value} {e s n : Nat} {xs : List Value} (hi : l[i]? = some ⟨v,e,s,n,xs⟩) : ∃ g c,v = .slice g n c ∧ n ≤ c ∧ c ≤ 9223372036854775807:=by
 rcases h.form hi with ⟨h1,rfl⟩ | ⟨g,c,h1,h2,h3⟩
 ·exact ⟨_,_,h1,Nat.le_refl _,by omega⟩
 ·exact ⟨_,_,h1,h2,h3⟩
theorem Rows.cN (h : Rows base w l) {i g n c : Nat} {xs : List Nat} (hi : l[i]? = some (oN (Vs g n c) xs)) {j : Nat} (hj : j < xs.length) : w.cell? ⟨g,0 + j,none⟩ = some (Vi (gt xs j : Int)):=h.cellV hi (nats_get xs hj)
theorem Rows.cS (h : Rows base w l) {i g n c : Nat} {xs : List Nat} (hi : l[i]? = some (oS (Vs g n c) xs)) {j : Nat} (hj : j < xs.length) : w.cell? ⟨g,0 + j,none⟩ = some (.int .i32 (gt xs j : Int)):=h.cellV hi (n32s_get xs hj)
theorem Rows.cB (h : Rows base w l) {i g n c : Nat} {xs : List Bool} (hi : l[i]? = some (oB (Vs g n c) xs)) {j : Nat} (hj : j < xs.length) : w.cell? ⟨g,0 + j,none⟩ = some (.bool (xs.getD j false)):=h.cellV hi (by simp [List.getD_eq_getElem?_getD,hj])
theorem Rows.cK0 (h : Rows base w l) {i g n c : Nat} {xs : List Blk} (hi : l[i]? = some (oK (Vs g n c) xs)) {j : Nat} (hj : j < xs.length) : w.cell? ⟨g,0 + j * 4 + 0,none⟩ = some (Vi ((gb xs j).first : Int)):=by
 have:=h.cellV hi (blk_get xs j hj).1
 simpa using this
theorem Rows.cK1 (h : Rows base w l) {i g n c : Nat} {xs : List Blk} (hi : l[i]? = some (oK (Vs g n c) xs)) {j : Nat} (hj : j < xs.length) : w.cell? ⟨g,0 + j * 4 + 1,none⟩ = some (Vi ((gb xs j).size : Int)):=by
 have:=h.cellV hi (blk_get xs j hj).2.1
 rwa [← Nat.add_assoc] at this
theorem Rows.cK2 (h : Rows base w l) {i g n c : Nat} {xs : List Blk} (hi : l[i]? = some (oK (Vs g n c) xs)) {j : Nat} (hj : j < xs.length) : w.cell? ⟨g,0 + j * 4 + 2,none⟩ = some (Vi ((gb xs j).marked : Int)):=by
 have:=h.cellV hi (blk_get xs j hj).2.2.1
 rwa [← Nat.add_assoc] at this
theorem Rows.cK3 (h : Rows base w l) {i g n c : Nat} {xs : List Blk} (hi : l[i]? = some (oK (Vs g n c) xs)) {j : Nat} (hj : j < xs.length) : w.cell? ⟨g,0 + j * 4 + 3,none⟩ = some (Vi ((gb xs j).parent : Int)):=by
 have:=h.cellV hi (blk_get xs j hj).2.2.2
 rwa [← Nat.add_assoc] at this
end
structure PV where
 st : Value
 pl : Value
 bl : Value
 bs : Value
 cs : Value
 ml : Value
abbrev pX (b : Nat) (V : PV) : Ow:=oX 64 b 6 [V.st,V.pl,V.bl,V.bs,V.cs,V.ml]
abbrev ptR (b : Nat) (p : Pt) (V : PV) : List Ow:=[pX b V,oS V.st p.st,oN V.pl p.pl,oN V.bl p.bl,oK V.bs p.bs,oN V.cs p.cs,oN V.ml p.ml]
def HoldP (base : Nat) (w0 w : World) (b : Nat) (p : Pt) (rest : List Ow) : Prop:=∃ V,Hold base w0 w (ptR b p V ++ rest)
section
variable {base : Nat} {w0 w w' : World} {l : List Ow}
theorem Hold.cast {l' : List Ow} (h : Hold base w0 w l) (e : l = l') : Hold base w0 w l':=e ▸ h
theorem oN_set (v : Value) (l : List Nat) (j x : Nat) : (⟨v,3,1,l.length,(nats l).set j (Vi x)⟩ : Ow) = oN v (l.set j x):=by rw [nats_set,oN,List.length_set]
theorem oS_set (v : Value) (l : List Nat) (j x : Nat) : (⟨v,21,1,l.length,(n32s l).set j (.int .i32 (x : Int))⟩ : Ow) = oS v (l.set j x):=by rw [n32s_set,oS,List.length_set]
theorem oB_set (v : Value) (l : List Bool) (j : Nat) (x : Bool) : (⟨v,4,1,l.length,(bools l).set j (.bool x)⟩ : Ow) = oB v (l.set j x):=by rw [oB,List.length_set,bools,bools,List.map_set]
theorem oN_app (v : Value) (l : List Nat) (x : Nat) : (⟨v,3,1,l.length + 1,nats l ++ [Vi x]⟩ : Ow) = oN v (l ++ [x]):=by simp
theorem oS_app (v : Value) (l : List Nat) (x : Nat) : (⟨v,21,1,l.length + 1,n32s l ++ [.int .i32 (x : Int)]⟩ : Ow) = oS v (l ++ [x]):=by simp
theorem oK_app (v : Value) (l : List Blk) (b : Blk) : (⟨v,91,4,l.length + 1,blkCells l ++ [Vi b.first,Vi b.size,Vi b.marked,Vi b.parent]⟩ : Ow) = oK v (l ++ [b]):=by rw [blk_app,oK,List.length_append]; rfl
theorem oB_app (v : Value) (l k : List Bool) : (⟨v,4,1,l.length + k.length,bools l ++ bools k⟩ : Ow) = oB v (l ++ k):=by simp
theorem Hold.storeN (h : Hold base w0 w l) {i g n c : Nat} {xs : List Nat} (hi : l[i]? = some (oN (Vs g n c) xs)) (j x : Nat) : Hold base w0 (w.setCell ⟨g,0 + j,none⟩ (Vi x)) (l.set i (oN (Vs g n c) (xs.set j x))):=by
 have:=h.store hi j (Vi x)
 rwa [oN_set] at this
theorem Hold.storeS (h : Hold base w0 w l) {i g n c : Nat} {xs : List Nat} (hi : l[i]? = some (oS (Vs g n c) xs)) (j x : Nat) : Hold base w0 (w.setCell ⟨g,0 + j,none⟩ (.int .i32 (x : Int))) (l.set i (oS (Vs g n c) (xs.set j x))):=by
 have:=h.store hi j (.int .i32 (x : Int))
 rwa [oS_set] at this
theorem Hold.storeB (h : Hold base w0 w l) {i g n c : Nat} {xs : List Bool} (hi : l[i]? = some (oB (Vs g n c) xs)) (j : Nat) (x : Bool) : Hold base w0 (w.setCell ⟨g,0 + j,none⟩ (.bool x)) (l.set i (oB (Vs g n c) (xs.set j x))):=by
 have:=h.store hi j (.bool x)
 rwa [oB_set] at this
theorem Hold.storeK0 (h : Hold base w0 w l) {i g n c : Nat} {xs : List Blk} (hi : l[i]? = some (oK (Vs g n c) xs)) (j x : Nat) : Hold base w0 (w.setCell ⟨g,0 + j * 4 + 0,none⟩ (Vi x)) (l.set i (oK (Vs g n c) (xs.set j { gb xs j with first:=x }))):=by
 have:=h.store hi (j * 4) (Vi x)
 rw [(blk_set xs j x).1] at this
 rw [oK,List.length_set]; exact this
theorem Hold.storeK1 (h : Hold base w0 w l) {i g n c : Nat} {xs : List Blk} (hi : l[i]? = some (oK (Vs g n c) xs)) (j x : Nat) : Hold base w0 (w.setCell ⟨g,0 + j * 4 + 1,none⟩ (Vi x)) (l.set i (oK (Vs g n c) (xs.set j { gb xs j with size:=x }))):=by
 have:=h.store hi (j * 4 + 1) (Vi x)
 rw [(blk_set xs j x).2.1,← Nat.add_assoc] at this
 rw [oK,List.length_set]; exact this
theorem Hold.storeK2 (h : Hold base w0 w l) {i g n c : Nat} {xs : List Blk} (hi : l[i]? = some (oK (Vs g n c) xs)) (j x : Nat) : Hold base w0 (w.setCell ⟨g,0 + j * 4 + 2,none⟩ (Vi x)) (l.set i (oK (Vs g n c) (xs.set j { gb xs j with marked:=x }))):=by
 have:=h.store hi (j * 4 + 2) (Vi x)
 rw [(blk_set xs j x).2.2.1,← Nat.add_assoc] at this
 rw [oK,List.length_set]; exact this
theorem Hold.appN {v v' : Value} {xs : List Nat} {x : Nat} (h : Hold base w0 w l) {i : Nat} (hi : l[i]? = some (oN v xs)) (hown : w'.ownsRow base 3 1 v' (xs.length + 1) (nats xs ++ [Vi x])) (hgr : w.grownBy w' v.ownBlock)
  (hat : v'.ownBlock = v.ownBlock ∨ v'.ownBlock = some w.heap.size) : Hold base w0 w' (l.set i (oN v' (xs ++ [x]))):=by
 have:=h.app hi hown hgr hat
 rwa [oN_app] at this
theorem Hold.appS {v v' : Value} {xs : List Nat} {x : Nat} (h : Hold base w0 w l) {i : Nat} (hi : l[i]? = some (oS v xs)) (hown : w'.ownsRow base 21 1 v' (xs.length + 1) (n32s xs ++ [.int .i32 (x : Int)])) (hgr : w.grownBy w' v.ownBlock)
  (hat : v'.ownBlock = v.ownBlock ∨ v'.ownBlock = some w.heap.size) : Hold base w0 w' (l.set i (oS v' (xs ++ [x]))):=by
 have:=h.app hi hown hgr hat
 rwa [oS_app] at this
theorem Hold.appB {v v' : Value} {xs ys : List Bool} (h : Hold base w0 w l) {i : Nat} (hi : l[i]? = some (oB v xs)) (hown : w'.ownsRow base 4 1 v' (xs.length + ys.length) (bools xs ++ bools ys)) (hgr : w.grownBy w' v.ownBlock)
  (hat : v'.ownBlock = v.ownBlock ∨ v'.ownBlock = some w.heap.size) : Hold base w0 w' (l.set i (oB v' (xs ++ ys))):=by
 have:=h.app hi hown hgr hat
 rwa [oB_app] at this
theorem Hold.appK {v v' : Value} {xs : List Blk} {b : Blk} (h : Hold base w0 w l) {i : Nat} (hi : l[i]? = some (oK v xs)) (hown : w'.ownsRow base 91 4 v' (xs.length + 1) (blkCells xs ++ [Vi b.first,Vi b.size,Vi b.marked,Vi b.parent])) (hgr : w.grownBy w' v.ownBlock)
  (hat : v'.ownBlock = v.ownBlock ∨ v'.ownBlock = some w.heap.size) : Hold base w0 w' (l.set i (oK v' (xs ++ [b]))):=by
 have:=h.app hi hown hgr hat
 rwa [oK_app] at this
end
theorem nat_eq0 (n : Nat) : decide ((n : Int) = 0) = decide (n = 0):=by
 rw [Bool.eq_iff_iff]; simp
theorem i32_in (n : Nat) (h : n ≤ 1000000000) : IntKind.i32.wrap (n : Int) = (n : Int):=by
 have h1 : (n : Int) % 2 ^ 32 = n:=by omega
 simp only [IntKind.wrap,IntKind.bits,IntKind.signed,h1]
 rw [if_neg (by simp; omega)]
theorem i64_in (n : Nat) (h : n ≤ 9223372036854775807) : IntKind.i64.wrap (n : Int) = (n : Int):=IntWalk.i64_in _ ⟨by omega,by omega⟩
theorem i64_add (n m : Nat) (h : n + m ≤ 9223372036854775807) : IntKind.i64.wrap ((n : Int) + (m : Int)) = ((n + m : Nat) : Int):=by
 rw [← Int.natCast_add]; exact i64_in _ h
theorem i64_sub (n m : Nat) (h : m ≤ n) (hn : n ≤ 9223372036854775807) : IntKind.i64.wrap ((n : Int) - (m : Int)) = ((n - m : Nat) : Int):=by
 rw [show (n : Int) - (m : Int) = ((n - m : Nat) : Int) by omega]; exact i64_in _ (by omega)
theorem i64_mul (n m : Nat) (h : n * m ≤ 9223372036854775807) : IntKind.i64.wrap ((n : Int) * (m : Int)) = ((n * m : Nat) : Int):=by
 rw [← Int.natCast_mul]; exact i64_in _ h
end Go.Proofs.YthcoppfiahnpoaaGreat
namespace Go.Proofs.YthcoppfiahnpoaaGreat
open Go Sym
section
variable {base : Nat} {w0 w : World} {b : Nat} {p : Pt} {N s : Nat} {rest : List Ow}
theorem mark_r3 {vst vpl vbl vbs vcs vml : Value} {pb : Value} {own : Nat} (h : Hold base w0 w (ptR b p ⟨vst,vpl,vbl,vbs,vcs,vml⟩ ++ rest)) (hml : p.ml.length < 1000000000)
  {Q : Exit → Act → World → Prop} {a : Act} {ops : Array Oper} {id : Nat} (hops : Sym.regionOf Tryz.f60.body 3 = some (id,ops))
  (hS : St Tryz.f60.ntmps a [(0,Vp b),(1,Vi s),(4,Vi own),(5,pb)])
  (hq : ∀ vml' a' w',St Tryz.f60.ntmps a' [(0,Vp b),(1,Vi s),(4,Vi own),(5,pb)] → Hold base w0 w' (ptR b { p with ml:=p.ml ++ [own] } ⟨vst,vpl,vbl,vbs,vcs,vml'⟩ ++ rest) → Q .normal a' w') : (Code.region id ops false).wp Tryz.prog Q a w:=by
 cases hops
 refine seq_cutx (α:=Value) (fun _=>[(0,Vp b),(1,Vi s),(4,Vi own),(5,pb)]) (fun vml' w'=>Hold base w0 w' (ptR b { p with ml:=p.ml ++ [own] } ⟨vst,vpl,vbl,vbs,vcs,vml'⟩ ++ rest)) tab_ok hS ?_ hq
 obtain ⟨g,c,rfl,hc⟩:=h.r.any (i:=6) rfl
 repeat first|refine zP rfl ?_|refine zK rfl ?_
 refine zL rfl (h.r.xcell (i:=0) rfl (j:=5) rfl) ?_
 repeat first|refine zP rfl ?_|refine zK rfl ?_
 refine o_step rfl rfl rfl ?_
 refine Exists.intro [(0,Vi (own))] (Exists.intro #[Vi (own)] (And.intro (And.intro rfl rfl) (And.intro (by decide) (And.intro (fillI _ _ _) ?_))))
 have h1:=h.alloc (.cells #[Vi own] 3)
 have ask : AppAsk (w.alloc (.cells #[Vi own] 3)) ⟨3,.int .i64,1,8,Vi 0⟩ (.slice g p.ml.length c) p.ml.length (nats p.ml) (Vs w.heap.size 1 1) 1 [Vi own] base:=
  ⟨h1.r.1 6 _ rfl,.inr ⟨_,0,_,rfl,cell_alloc_new rfl,trivial⟩,rfl,(by simp [Value.oneCell']),(by omega),(by show (p.ml.length + 1) * 8 ≤ _; omega),h1.s⟩
 refine o_step rfl rfl rfl ?_
 refine Exists.intro _ (Exists.intro _ (Exists.intro _ (Exists.intro _ (Exists.intro _ (And.intro (ask) (And.intro (fun _ h=>h.symm) (And.intro (by decide) ?_)))))))
 rintro v' w2 hown hgr - hat
 have h2:=h1.appN (i:=6) rfl hown hgr hat
 obtain ⟨g2,n2,c2,hv⟩:=own_form hown
 subst hv
 repeat first|refine zP rfl ?_|refine zK rfl ?_
 refine zS rfl rfl (h2.r.xcell (i:=0) rfl (j:=5) rfl) (h2.r.free (i:=0) rfl 5) ?_
 exact o_nil ⟨.slice g2 n2 c2,⟨rfl,rfl,rfl,rfl,trivial⟩,h2.xstore (i:=0) rfl 5 (.slice g2 n2 c2)⟩
theorem mark_r6 {vst vpl vbl vbs vcs vml : Value} {pb : Value} {to fr ot : Nat} (h : Hold base w0 w (ptR b p ⟨vst,vpl,vbl,vbs,vcs,vml⟩ ++ rest)) (hto : to < p.st.length) (hfr : fr < p.st.length) (hs : s < 1000000000)
  {Q : Exit → Act → World → Prop} {a : Act} {ops : Array Oper} {id : Nat} (hops : Sym.regionOf Tryz.f60.body 6 = some (id,ops))
  (hS : St Tryz.f60.ntmps a [(0,Vp b),(1,Vi s),(5,pb),(6,Vi to),(7,Vi fr),(8,.int .i32 (ot : Int))])
  (hq : ∀ a' w',St Tryz.f60.ntmps a' [(0,Vp b),(1,Vi s),(5,pb),(6,Vi to),(7,Vi fr),(8,.int .i32 (ot : Int))] → Hold base w0 w' (ptR b { p with st:=(p.st.set to s).set fr ot } ⟨vst,vpl,vbl,vbs,vcs,vml⟩ ++ rest) → Q .normal a' w') : (Code.region id ops true).wp Tryz.prog Q a w:=by
 cases hops
 refine any_cut 14 [(0,Vp b),(1,Vi s),(5,pb),(6,Vi to),(7,Vi fr),(8,.int .i32 (ot : Int))] (fun w'=>Hold base w0 w' (ptR b { p with st:=(p.st.set to s).set fr ot } ⟨vst,vpl,vbl,vbs,vcs,vml⟩ ++ rest)) mixed hS ?_ hq
 have hy : RowKit.Below w.drew.heap.size w.drew w.drew:=RowKit.Below.refl _ _
 have hD:=h.drew
 obtain ⟨g,c,rfl,hc⟩:=hD.r.nilOr (i:=1) rfl (by omega)
 refine yG 0 tab_ok rfl (by kernel_rfl) (.inr hy) rfl rfl ?_
 refine yT 1 tab_ok rfl (by kernel_rfl) hy rfl (rfl) ?_
 refine yT 2 tab_ok rfl (by kernel_rfl) hy rfl (rfl) ?_
 refine yL 3 tab_ok rfl (by kernel_rfl) hy rfl rfl (hD.r.xcell (i:=0) rfl (j:=0) rfl) ?_
 refine yG 4 tab_ok rfl (by kernel_rfl) (.inr hy) rfl rfl ?_
 refine yG 5 tab_ok rfl (by kernel_rfl) (.inr hy) rfl rfl ?_
 refine yT 6 tab_ok rfl (by kernel_rfl) hy rfl (rfl) ?_
 refine yT 7 tab_ok rfl (by kernel_rfl) hy rfl (rfl) ?_
 refine yL 8 tab_ok rfl (by kernel_rfl) hy rfl rfl (hD.r.xcell (i:=0) rfl (j:=0) rfl) ?_
 refine yG 10 tab_ok rfl (by kernel_rfl) (.inr hy) rfl rfl ?_
 refine yT 11 tab_ok rfl (by kernel_rfl) hy rfl (Exists.intro _ (And.intro (i32_in s (by omega)) rfl)) ?_
 refine yT 13 tab_ok rfl (by kernel_rfl) hy rfl (Exists.intro _ (And.intro (rfl) (And.intro (hto) rfl))) ?_
 refine yG 9 tab_ok rfl (by kernel_rfl) (.inr hy) rfl rfl ?_
 refine yG 12 tab_ok rfl (by kernel_rfl) (.inr hy) rfl rfl ?_
 refine y_one 14 (by kernel_rfl) (y_op0 14 tab_ok rfl rfl rfl ?_)
 have h1:=hD.storeS (i:=1) rfl to s
 refine And.intro rfl (And.intro rfl (And.intro ⟨_,hD.r.cS (i:=1) rfl hto⟩ (And.intro (hD.r.free (i:=1) rfl _) (And.intro (.inl (by kernel_rfl)) ?_))))
 refine yG 15 tab_ok rfl (by kernel_rfl) (.inl (by kernel_rfl)) rfl (Exists.intro _ (And.intro (rfl) (And.intro (hfr) rfl))) ?_
 refine y_one 16 (by kernel_rfl) (y_op0 16 tab_ok rfl rfl rfl ?_)
 refine And.intro rfl (And.intro rfl (And.intro ⟨_,h1.r.cS (i:=1) rfl (j:=fr) (by rw [List.length_set]; exact hfr)⟩ (And.intro (h1.r.free (i:=1) rfl _) (And.intro (.inl (by kernel_rfl)) ?_))))
 exact y_end (by kernel_rfl) ⟨rfl,rfl,rfl,rfl,rfl,rfl,trivial⟩ (h1.storeS (i:=1) rfl fr ot)
theorem mark_r7 {vst vpl vbl vbs vcs vml : Value} {pb : Value} {to fr ot : Nat} (h : Hold base w0 w (ptR b p ⟨vst,vpl,vbl,vbs,vcs,vml⟩ ++ rest)) (hs : s < p.pl.length) (hot : ot < p.pl.length) (hN : p.pl.length ≤ 1000000000)
  {Q : Exit → Act → World → Prop} {a : Act} {ops : Array Oper} {id : Nat} (hops : Sym.regionOf Tryz.f60.body 7 = some (id,ops))
  (hS : St Tryz.f60.ntmps a [(0,Vp b),(1,Vi s),(5,pb),(6,Vi to),(7,Vi fr),(8,.int .i32 (ot : Int))])
  (hq : ∀ a' w',St Tryz.f60.ntmps a' [(5,pb)] → Hold base w0 w' (ptR b { p with pl:=(p.pl.set s to).set ot fr } ⟨vst,vpl,vbl,vbs,vcs,vml⟩ ++ rest) → Q .normal a' w') : (Code.region id ops true).wp Tryz.prog Q a w:=by
 cases hops
 refine any_cut 13 [(5,pb)] (fun w'=>Hold base w0 w' (ptR b { p with pl:=(p.pl.set s to).set ot fr } ⟨vst,vpl,vbl,vbs,vcs,vml⟩ ++ rest)) mixed hS ?_ hq
 have hy : RowKit.Below w.drew.heap.size w.drew w.drew:=RowKit.Below.refl _ _
 have hD:=h.drew
 obtain ⟨g,c,rfl,hc⟩:=hD.r.nilOr (i:=2) rfl (by omega)
 refine yG 0 tab_ok rfl (by kernel_rfl) (.inr hy) rfl rfl ?_
 refine yT 1 tab_ok rfl (by kernel_rfl) hy rfl (rfl) ?_
 refine yT 2 tab_ok rfl (by kernel_rfl) hy rfl (rfl) ?_
 refine yL 3 tab_ok rfl (by kernel_rfl) hy rfl rfl (hD.r.xcell (i:=0) rfl (j:=1) rfl) ?_
 refine yG 4 tab_ok rfl (by kernel_rfl) (.inr hy) rfl rfl ?_
 refine yG 5 tab_ok rfl (by kernel_rfl) (.inr hy) rfl rfl ?_
 refine yT 6 tab_ok rfl (by kernel_rfl) hy rfl (rfl) ?_
 refine yT 7 tab_ok rfl (by kernel_rfl) hy rfl (rfl) ?_
 refine yL 8 tab_ok rfl (by kernel_rfl) hy rfl rfl (hD.r.xcell (i:=0) rfl (j:=1) rfl) ?_
 refine yG 10 tab_ok rfl (by kernel_rfl) (.inr hy) rfl rfl ?_
 refine yT 12 tab_ok rfl (by kernel_rfl) hy rfl (Exists.intro _ (And.intro (rfl) (And.intro (hs) rfl))) ?_
 refine yG 9 tab_ok rfl (by kernel_rfl) (.inr hy) rfl rfl ?_
 refine yG 11 tab_ok rfl (by kernel_rfl) (.inr hy) rfl rfl ?_
 refine y_one 13 (by kernel_rfl) (y_op0 13 tab_ok rfl rfl rfl ?_)
 have h1:=hD.storeN (i:=2) rfl s to
 refine And.intro rfl (And.intro rfl (And.intro ⟨_,hD.r.cN (i:=2) rfl hs⟩ (And.intro (hD.r.free (i:=2) rfl _) (And.intro (.inl (by kernel_rfl)) ?_))))
 refine yG 14 tab_ok rfl (by kernel_rfl) (.inl (by kernel_rfl)) rfl (Exists.intro _ (And.intro (rfl) (And.intro (hot) rfl))) ?_
 refine y_one 15 (by kernel_rfl) (y_op0 15 tab_ok rfl rfl rfl ?_)
 refine And.intro rfl (And.intro rfl (And.intro ⟨_,h1.r.cN (i:=2) rfl (j:=ot) (by rw [List.length_set]; exact hot)⟩ (And.intro (h1.r.free (i:=2) rfl _) (And.intro (.inl (by kernel_rfl)) ?_))))
 exact y_end (by kernel_rfl) ⟨rfl,trivial⟩ (h1.storeN (i:=2) rfl ot fr)
theorem mark_any (h : HoldP base w0 w b p rest) (hp : PI p N p.ml) (hs : s < N) (hm : ¬ p.M s) (hN : N ≤ 100000000) :
  Calls Tryz.prog 60 #[Vp b,Vi s] w fun e w'=>e = .returned (.tuple #[]) ∧ HoldP base w0 w' b (p.mark s) rest:=by
 obtain ⟨⟨vst,vpl,vbl,vbs,vcs,vml⟩,h⟩:=h
 refine Sym.enter (args:=[Vp b,Vi s]) Tryz.func60 rfl rfl rfl (fun a0 hS0=>?_)
 have hib:=hp.ib s hs
 have hto:=hp.to hs hm
 obtain ⟨own,hown⟩ : ∃ own,gt p.bl s = own:=⟨_,rfl⟩
 rw [hown] at hib hto
 have hbd:=hp.bd own hib
 have hps:=hp.ps s hs
 have hl1:=hp.st
 have hl2:=hp.pl
 have hl3:=hp.bl
 have hfew:=hp.few
 have hml : p.ml.length ≤ N:=by
  have:=hp.nd.length_le_of_subset (l₂:=List.range p.bs.length) (fun x hx=>List.mem_range.2 ((hp.tm x).1 hx).1)
  rw [List.length_range] at this
  omega
 obtain ⟨gbl,cbl,rfl,-⟩:=h.r.nilOr (i:=3) rfl (by omega)
 obtain ⟨gbs,cbs,rfl,-⟩:=h.r.nilOr (i:=4) rfl (by omega)
 obtain ⟨gpl,cpl,rfl,-⟩:=h.r.nilOr (i:=2) rfl (by omega)
 obtain ⟨gst,cst,rfl,-⟩:=h.r.nilOr (i:=1) rfl (by omega)
 refine wp_seq (seq_cut [(0,Vp b),(1,Vi s),(4,Vi own)] (· = w) tab_ok hS0 ?_ (fun a w1 hS hw=>?_))
 ·have hc:=h.r.cN (i:=3) rfl (j:=s) (by omega)
  rw [hown] at hc
  repeat first|refine zP rfl ?_|refine zK rfl ?_
  refine zL rfl (h.r.xcell (i:=0) rfl (j:=2) rfl) ?_
  repeat first|refine zP rfl ?_|refine zK rfl ?_
  refine zI rfl (rfl) ((by omega)) ?_
  refine zL rfl (hc) ?_
  repeat first|refine zP rfl ?_|refine zK rfl ?_
  exact o_nil ⟨⟨rfl,rfl,rfl,trivial⟩,rfl⟩
 subst hw
 refine wp_seq (seq_cut [(0,Vp b),(1,Vi s),(4,Vi own),(5,.pointer (some ⟨gbs,0 + own * 4,none⟩))] (· = w1) tab_ok hS ?_ (fun a w2 hS hw=>?_))
 ·repeat first|refine zP rfl ?_|refine zK rfl ?_
  refine zL rfl (h.r.xcell (i:=0) rfl (j:=3) rfl) ?_
  repeat first|refine zP rfl ?_|refine zK rfl ?_
  refine zI rfl (rfl) (hib) ?_
  repeat first|refine zP rfl ?_|refine zK rfl ?_
  exact o_nil ⟨⟨rfl,rfl,rfl,rfl,trivial⟩,rfl⟩
 subst hw
 obtain ⟨ml',hml'⟩ : ∃ ml',ml' = if (gb p.bs own).marked = 0 then p.ml ++ [own] else p.ml:=⟨_,rfl⟩
 refine wp_seq (cut (F:=fun a' w'=>∃ vml' : Value,St Tryz.f60.ntmps a' [(0,Vp b),(1,Vi s),(4,Vi own),(5,.pointer (some ⟨gbs,0 + own * 4,none⟩))] ∧ Hold base w0 w' (ptR b { p with ml:=ml' } ⟨Vs gst p.st.length cst,Vs gpl p.pl.length cpl,Vs gbl p.bl.length cbl,Vs gbs p.bs.length cbs,vcs,vml'⟩ ++ rest)) ?_ ?_)
 ·refine wp_seq (seq_cut [(0,Vp b),(1,Vi s),(4,Vi own),(5,.pointer (some ⟨gbs,0 + own * 4,none⟩)),(26,.bool (decide ((gb p.bs own).marked = 0)))] (· = w2) tab_ok hS ?_ (fun a w3 hS hw=>?_))
  ·repeat first|refine zP rfl ?_|refine zK rfl ?_
   refine zL rfl (h.r.cK2 (i:=4) rfl hib) ?_
   repeat first|refine zP rfl ?_|refine zK rfl ?_
   refine zC rfl (nat_eq0 _) ?_
   repeat first|refine zP rfl ?_|refine zK rfl ?_
   exact o_nil ⟨⟨rfl,rfl,rfl,rfl,rfl,trivial⟩,rfl⟩
  subst hw
  refine cond hS rfl (fun hT=>?_) (fun hF=>?_)
  ·refine mark_r3 h (by omega) (by rfl) (hS.sub ⟨rfl,rfl,rfl,rfl,trivial⟩) (fun vml' a w4 hS h=>?_)
   rw [hml',if_pos (of_decide_eq_true hT)]
   exact ⟨vml',hS,h⟩
  ·refine wp_skip ?_
   rw [hml',if_neg (of_decide_eq_false hF)]
   exact ⟨vml,hS.sub ⟨rfl,rfl,rfl,rfl,trivial⟩,h⟩
 clear h hS
 rintro a w3 ⟨vml',hS,h⟩
 refine wp_seq (quiet_cut [(0,Vp b),(1,Vi s),(5,.pointer (some ⟨gbs,0 + own * 4,none⟩)),(6,Vi (((gb p.bs own).first + (gb p.bs own).marked : Nat) : Int)),(7,Vi (gt p.pl s : Int))] tab_ok mixed (by kernel_rfl) hS ?_ (fun a w4 hS hw=>?_))
 ·repeat first|refine qP rfl ?_|refine qK rfl ?_
  refine qL rfl (h.r.cK0 (i:=4) rfl hib) ?_
  repeat first|refine qP rfl ?_|refine qK rfl ?_
  refine qL rfl (h.r.cK2 (i:=4) rfl hib) ?_
  refine qN rfl (i64_add _ _ (by (try dsimp only); omega)) ?_
  repeat first|refine qP rfl ?_|refine qK rfl ?_
  refine qL rfl (h.r.xcell (i:=0) rfl (j:=1) rfl) ?_
  repeat first|refine qP rfl ?_|refine qK rfl ?_
  refine qI rfl (rfl) ((by (try dsimp only); omega)) ?_
  refine qL rfl (h.r.cN (i:=2) rfl (j:=s) (by (try dsimp only); omega)) ?_
  repeat first|refine qP rfl ?_|refine qK rfl ?_
  exact q_nil ⟨rfl,rfl,rfl,rfl,rfl,trivial⟩
 replace h:=h.below hw
 refine wp_seq (seq_cut [(0,Vp b),(1,Vi s),(5,.pointer (some ⟨gbs,0 + own * 4,none⟩)),(6,Vi (((gb p.bs own).first + (gb p.bs own).marked : Nat) : Int)),(7,Vi (gt p.pl s : Int)),(8,.int .i32 (gt p.st ((gb p.bs own).first + (gb p.bs own).marked) : Int))] (· = w4) tab_ok hS ?_ (fun a w5 hS hw=>?_))
 ·repeat first|refine zP rfl ?_|refine zK rfl ?_
  refine zL rfl (h.r.xcell (i:=0) rfl (j:=0) rfl) ?_
  repeat first|refine zP rfl ?_|refine zK rfl ?_
  refine zI rfl (rfl) ((by (try dsimp only); omega)) ?_
  refine zL rfl (h.r.cS (i:=1) rfl (j:=(gb p.bs own).first + (gb p.bs own).marked) (by show _ < p.st.length; omega)) ?_
  repeat first|refine zP rfl ?_|refine zK rfl ?_
  exact o_nil ⟨⟨rfl,rfl,rfl,rfl,rfl,rfl,trivial⟩,rfl⟩
 subst hw
 refine wp_seq (mark_r6 h (by show _ < p.st.length; omega) (by show _ < p.st.length; omega) (by (try dsimp only); omega) (by rfl) hS (fun a w6 hS h=>?_))
 have hot:=(hp.sp ((gb p.bs own).first + (gb p.bs own).marked) (by (try dsimp only); omega)).1
 refine wp_seq (mark_r7 h (by show _ < p.pl.length; omega) (by show _ < p.pl.length; omega) (by show p.pl.length ≤ _; omega) (by rfl) hS (fun a w7 hS h=>?_))
 refine seq_cut [] (fun w8=>HoldP base w0 w8 b (p.mark s) rest) tab_ok hS ?_ (fun a w8 hS hw=>ret0 hS rfl ⟨rfl,hw⟩)
 repeat first|refine zP rfl ?_|refine zK rfl ?_
 refine zL rfl (h.r.cK2 (i:=4) rfl hib) ?_
 repeat first|refine zP rfl ?_|refine zK rfl ?_
 refine zN rfl (i64_add _ 1 (by (try dsimp only); omega)) ?_
 repeat first|refine zP rfl ?_|refine zK rfl ?_
 refine zS rfl rfl (h.r.cK2 (i:=4) rfl hib) (h.r.free (i:=4) rfl _) ?_
 refine o_nil ⟨trivial,⟨⟨Vs gst p.st.length cst,Vs gpl p.pl.length cpl,Vs gbl p.bl.length cbl,Vs gbs p.bs.length cbs,vcs,vml'⟩,(h.storeK2 (i:=4) rfl own _).cast ?_⟩⟩
 subst hml'
 unfold Pt.mark
 rw [hown]
 rfl
end
end Go.Proofs.YthcoppfiahnpoaaGreat
namespace Go.Proofs.YthcoppfiahnpoaaGreat
open Go Sym
theorem en_round : enters Tryz.prog 31 = true:=by kernel_rfl
theorem en_members : enters Tryz.prog 84 = true:=by kernel_rfl
theorem en_mark : enters Tryz.prog 60 = true:=by kernel_rfl
section
variable {base : Nat} {w0 w : World} {b : Nat} {p : Pt} {N s : Nat} {rest : List Ow}
theorem gst_form {g c l k : Nat} (hk : 0 < k) (hl : l + k ≤ c) : (Value.slice (if c = l then some ⟨g,0,none⟩ else (some (⟨g,0,none⟩ : Addr)).map (·.add (l * 1))) k (c - l)) = .slice (some ⟨g,l,none⟩) k (c - l):=by
 rw [if_neg (by omega)]
 simp only [Option.map_some,Addr.add,Nat.mul_one]
 split
 ·rename_i h; rw [h]
 ·simp
theorem round_any {V : PV} (h : Hold base w0 w (ptR b p V ++ rest)) (hc : 0 < p.cs.length) (hN : p.cs.length ≤ 1000000000) :
  Calls Tryz.prog 31 #[Vp b] w fun e w'=>e = .returned (Vi (p.cs.length - 1 : Nat)) ∧ RowKit.Below w.heap.size w w':=by
 obtain ⟨vst,vpl,vbl,vbs,vcs,vml⟩:=V
 refine Sym.enter (args:=[Vp b]) Tryz.func31 rfl rfl rfl (fun a0 hS0=>?_)
 obtain ⟨g,c,rfl,-⟩:=h.r.any (i:=5) rfl
 refine wp_seq (seq_cut [(0,Vp b)] (· = w) tab_ok hS0 ?_ (fun a w1 hS hw=>?_))
 ·repeat first|refine zP rfl ?_|refine zK rfl ?_
  exact o_nil ⟨⟨rfl,trivial⟩,rfl⟩
 subst hw
 refine wp_seq (seq_cut [(2,Vi (p.cs.length - 1 : Nat))] (· = w1) tab_ok hS ?_ (fun a w2 hS hw=>?_))
 ·repeat first|refine zP rfl ?_|refine zK rfl ?_
  refine zL rfl (h.r.xcell (i:=0) rfl (j:=4) rfl) ?_
  repeat first|refine zP rfl ?_|refine zK rfl ?_
  refine zN rfl (i64_sub _ 1 (by omega) (by omega)) ?_
  repeat first|refine zP rfl ?_|refine zK rfl ?_
  exact o_nil ⟨⟨rfl,trivial⟩,rfl⟩
 subst hw
 refine wp_ret ?_
 repeat (first | refine then_ret ?_ | refine block_ret ?_)
 exact ret1 hS rfl rfl ⟨rfl,RowKit.Below.refl _ _⟩
theorem members_any {vpl vbl vbs vcs vml mk par : Value} {gst cst l k : Nat} (h : Hold base w0 w (ptR b p ⟨Vs gst p.st.length cst,vpl,vbl,vbs,vcs,vml⟩ ++ rest)) (hk : 0 < k) (hl : l + k ≤ p.st.length) (hN : p.st.length ≤ 1000000000) :
  Calls Tryz.prog 84 #[Vp b,.agg #[Vi l,Vi k,mk,par]] w fun e w'=>e = .returned (.slice (some ⟨gst,l,none⟩) k (cst - l)) ∧ RowKit.Below w.heap.size w w':=by
 refine Sym.enter (args:=[Vp b,.agg #[Vi l,Vi k,mk,par]]) Tryz.func84 rfl rfl rfl (fun a0 hS0=>?_)
 obtain ⟨g,c,hv,hc,-⟩:=h.r.nilOr (i:=1) rfl (by omega)
 simp only [Value.slice.injEq] at hv
 obtain ⟨hv1,-,rfl⟩:=hv
 refine wp_seq (seq_cut [(0,Vp b),(3,Vp w.heap.size)] (· = w.alloc (.cells #[Vi l,Vi k,mk,par] 91)) tab_ok hS0 ?_ (fun a w1 hS hw=>?_))
 ·refine zB rfl ?_
  repeat first|refine zP rfl ?_|refine zK rfl ?_
  exact o_nil ⟨⟨rfl,rfl,trivial⟩,rfl⟩
 have hB : RowKit.Below w.heap.size w w1:=by rw [hw]; exact below_alloc _ _
 have hc0 : w1.cell? ⟨w.heap.size,0,none⟩ = some (Vi l):=by rw [hw]; exact cell_alloc_new rfl
 have hc1 : w1.cell? ⟨w.heap.size,1,none⟩ = some (Vi k):=by rw [hw]; exact cell_alloc_new rfl
 obtain ⟨B,hBB⟩ : ∃ B,B = w.heap.size:=⟨_,rfl⟩
 rw [← hBB] at hc0 hc1 hS
 have h1:=h.below hB
 refine wp_seq (quiet_cut [(4,.slice (some ⟨gst,l,none⟩) k (cst - l))] tab_ok mixed (by kernel_rfl) hS ?_ (fun a w2 hS hw2=>?_))
 ·repeat first|refine qP rfl ?_|refine qK rfl ?_
  refine qL rfl (h1.r.xcell (i:=0) rfl (j:=0) rfl) ?_
  repeat first|refine qP rfl ?_|refine qK rfl ?_
  refine qL rfl (hc0) ?_
  repeat first|refine qP rfl ?_|refine qK rfl ?_
  refine qL rfl (hc0) ?_
  repeat first|refine qP rfl ?_|refine qK rfl ?_
  refine qL rfl (hc1) ?_
  refine qN rfl (i64_add _ _ (by omega)) ?_
  refine q_step rfl rfl rfl (Exists.intro l (Exists.intro (l + k) (And.intro ⟨_,_,rfl,rfl⟩ (And.intro ⟨_,_,rfl,rfl⟩ (And.intro (by omega) (And.intro (by omega) (And.intro hc ?_)))))))
  rw [show l + k - l = k by omega]
  have e:=gst_form (g:=gst) (c:=cst) (l:=l) hk (by omega)
  refine cast (congrArg (fun v=>quietK _ _ _ _ _ _ _ ((16,v) :: _)) e.symm) ?_
  repeat first|refine qP rfl ?_|refine qK rfl ?_
  exact q_nil ⟨rfl,trivial⟩
 refine wp_ret ?_
 repeat (first | refine then_ret ?_ | refine block_ret ?_)
 exact ret1 hS rfl rfl ⟨rfl,below_trans hB hw2⟩
theorem relabel_succ (st : List Nat) (nb : Nat) : ∀ (k i : Nat) (bl : List Nat),relabel st nb bl i (k + 1) = (relabel st nb bl i k).set (gt st (i + k)) nb
 | 0,i,bl=>rfl
 | k + 1,i,bl=>by
   rw [relabel,relabel_succ st nb k (i + 1),relabel,show i + 1 + k = i + (k + 1) by omega]
abbrev bX (B : Nat) (x : Blk) : Ow:=oX 91 B 4 [Vi x.first,Vi x.size,Vi x.marked,Vi x.parent]
variable {vst vpl vbl vcs vml : Value} {gbs cbs lbs n k old : Nat}
theorem split_r4 (h : Hold base w0 w (ptR b p ⟨vst,vpl,vbl,Vs gbs lbs cbs,vcs,vml⟩ ++ rest)) (hold : old < p.bs.length) {Q : Exit → Act → World → Prop} {a : Act} {ops : Array Oper} {id : Nat} (hops : Sym.regionOf Tryz.f61.body 4 = some (id,ops))
  (hS : St Tryz.f61.ntmps a [(0,Vp b),(11,vml),(12,Vi n),(13,Vi k),(3,Vi old),(4,.pointer (some ⟨gbs,0 + old * 4,none⟩))])
  (hq : ∀ B a' w',St Tryz.f61.ntmps a' [(0,Vp b),(11,vml),(12,Vi n),(13,Vi k),(3,Vi old),(4,.pointer (some ⟨gbs,0 + old * 4,none⟩)),(5,Vp B)] → Hold base w0 w' (bX B ⟨(gb p.bs old).first,(gb p.bs old).marked,0,old⟩ :: (ptR b p ⟨vst,vpl,vbl,Vs gbs lbs cbs,vcs,vml⟩ ++ rest)) → Q .normal a' w') : (Code.region id ops true).wp Tryz.prog Q a w:=by
 cases hops
 refine any_cutx (α:=Nat) 12 (fun B=>[(0,Vp b),(11,vml),(12,Vi n),(13,Vi k),(3,Vi old),(4,.pointer (some ⟨gbs,0 + old * 4,none⟩)),(5,Vp B)]) (fun B w'=>Hold base w0 w' (bX B ⟨(gb p.bs old).first,(gb p.bs old).marked,0,old⟩ :: (ptR b p ⟨vst,vpl,vbl,Vs gbs lbs cbs,vcs,vml⟩ ++ rest))) mixed hS ?_ hq
 have hy : RowKit.Below w.drew.heap.size w.drew w.drew:=RowKit.Below.refl _ _
 have hD:=h.drew
 refine yT 0 tab_ok rfl (by kernel_rfl) hy rfl (rfl) ?_
 refine yT 1 tab_ok rfl (by kernel_rfl) hy rfl (rfl) ?_
 refine yT 2 tab_ok rfl (by kernel_rfl) hy rfl (rfl) ?_
 refine yL 3 tab_ok rfl (by kernel_rfl) hy rfl rfl (hD.r.cK0 (i:=4) rfl hold) ?_
 refine yT 4 tab_ok rfl (by kernel_rfl) hy rfl (rfl) ?_
 refine yT 5 tab_ok rfl (by kernel_rfl) hy rfl (rfl) ?_
 refine yT 6 tab_ok rfl (by kernel_rfl) hy rfl (rfl) ?_
 refine yL 7 tab_ok rfl (by kernel_rfl) hy rfl rfl (hD.r.cK2 (i:=4) rfl hold) ?_
 refine yT 8 tab_ok rfl (by kernel_rfl) hy rfl (rfl) ?_
 refine yT 9 tab_ok rfl (by kernel_rfl) hy rfl (rfl) ?_
 refine y_one 10 (by kernel_rfl) (y_op 10 tab_ok rfl rfl rfl rfl ?_)
 have h1:=hD.box (T:=91) (k:=4) #[Vi 0,Vi 0,Vi 0,Vi 0] rfl
 have hy1:=hy.alloc (Nat.le_refl _) (.cells #[Vi 0,Vi 0,Vi 0,Vi 0] 91)
 refine And.intro (.inr hy1) ?_
 refine y_one 11 (by kernel_rfl) (y_op0 11 tab_ok rfl rfl rfl ?_)
 have ho:=OwnB.new w.drew [Vi 0,Vi 0,Vi 0,Vi 0] 91
 refine And.intro rfl (And.intro rfl (And.intro (own_cells4 ho) ?_))
 have hb2 : RowKit.Below w.drew.heap.size w.drew ((w.drew.alloc (.cells #[Vi 0,Vi 0,Vi 0,Vi 0] 91)).setCells w.drew.heap.size 0 [Vi ((gb p.bs old).first : Int),Vi ((gb p.bs old).marked : Int),Vi 0,Vi old]):=below_of_grown hy1 (grown_sets _ _ _ _) (fun k hk=>by
  simp only [Option.some.injEq] at hk; omega)
 refine And.intro (.inr hb2) (y_endx w.drew.heap.size (by kernel_rfl) ⟨rfl,rfl,rfl,rfl,rfl,rfl,rfl,trivial⟩ ?_)
 have ho2:=ho.sets (us:=[Vi ((gb p.bs old).first : Int),Vi ((gb p.bs old).marked : Int),Vi 0,Vi old]) rfl
 have hg : w.drew.grownBy ((w.drew.alloc (.cells #[Vi 0,Vi 0,Vi 0,Vi 0] 91)).setCells w.drew.heap.size 0 [Vi ((gb p.bs old).first : Int),Vi ((gb p.bs old).marked : Int),Vi 0,Vi old]) none:=grown_below hb2
 exact hD.new hg ⟨rfl,.inr ⟨_,1,_,rfl,hD.s,ho2,Nat.le_refl _,by decide,rfl,rfl⟩⟩ (.inr ⟨_,rfl,Nat.le_refl _⟩)
variable {B : Nat} {x : Blk} {gbl cbl lbl : Nat}
theorem split_r9 (h : Hold base w0 w (bX B x :: (ptR b p ⟨vst,vpl,vbl,Vs gbs lbs cbs,vcs,vml⟩ ++ rest))) (hold : old < p.bs.length) (hN : (gb p.bs old).first + x.size ≤ 1000000000) {Q : Exit → Act → World → Prop} {a : Act} {ops : Array Oper} {id : Nat} (hops : Sym.regionOf Tryz.f61.body 9 = some (id,ops))
  (hS : St Tryz.f61.ntmps a [(0,Vp b),(11,vml),(12,Vi n),(13,Vi k),(3,Vi old),(4,.pointer (some ⟨gbs,0 + old * 4,none⟩)),(5,Vp B)])
  (hq : ∀ a' w',St Tryz.f61.ntmps a' [(0,Vp b),(11,vml),(12,Vi n),(13,Vi k),(3,Vi old),(4,.pointer (some ⟨gbs,0 + old * 4,none⟩)),(5,Vp B)] → Hold base w0 w' (bX B x :: (ptR b { p with bs:=p.bs.set old { gb p.bs old with first:=(gb p.bs old).first + x.size } } ⟨vst,vpl,vbl,Vs gbs lbs cbs,vcs,vml⟩ ++ rest)) → Q .normal a' w') : (Code.region id ops true).wp Tryz.prog Q a w:=by
 cases hops
 refine any_cut 9 [(0,Vp b),(11,vml),(12,Vi n),(13,Vi k),(3,Vi old),(4,.pointer (some ⟨gbs,0 + old * 4,none⟩)),(5,Vp B)] (fun w'=>Hold base w0 w' (bX B x :: (ptR b { p with bs:=p.bs.set old { gb p.bs old with first:=(gb p.bs old).first + x.size } } ⟨vst,vpl,vbl,Vs gbs lbs cbs,vcs,vml⟩ ++ rest))) mixed hS ?_ hq
 have hy : RowKit.Below w.drew.heap.size w.drew w.drew:=RowKit.Below.refl _ _
 have hD:=h.drew
 refine yT 0 tab_ok rfl (by kernel_rfl) hy rfl (rfl) ?_
 refine yT 1 tab_ok rfl (by kernel_rfl) hy rfl (rfl) ?_
 refine yT 2 tab_ok rfl (by kernel_rfl) hy rfl (rfl) ?_
 refine yL 3 tab_ok rfl (by kernel_rfl) hy rfl rfl (hD.r.cK0 (i:=5) rfl hold) ?_
 refine yT 4 tab_ok rfl (by kernel_rfl) hy rfl (rfl) ?_
 refine yL 5 tab_ok rfl (by kernel_rfl) hy rfl rfl (hD.r.xcell (i:=0) rfl (j:=1) rfl) ?_
 refine yT 6 tab_ok rfl (by kernel_rfl) hy rfl (Exists.intro _ (And.intro (i64_add _ _ (by omega)) rfl)) ?_
 refine yT 7 tab_ok rfl (by kernel_rfl) hy rfl (rfl) ?_
 refine yT 8 tab_ok rfl (by kernel_rfl) hy rfl (rfl) ?_
 refine y_one 9 (by kernel_rfl) (y_op0 9 tab_ok rfl rfl rfl ?_)
 refine And.intro rfl (And.intro rfl (And.intro ⟨_,hD.r.cK0 (i:=5) rfl hold⟩ (And.intro (hD.r.free (i:=5) rfl _) (And.intro (.inl (by kernel_rfl)) ?_))))
 exact y_end (by kernel_rfl) ⟨rfl,rfl,rfl,rfl,rfl,rfl,rfl,trivial⟩ (hD.storeK0 (i:=5) rfl old _)
theorem split_r10 (h : Hold base w0 w (bX B x :: (ptR b p ⟨vst,vpl,vbl,Vs gbs lbs cbs,vcs,vml⟩ ++ rest))) (hold : old < p.bs.length) (hN : x.size ≤ (gb p.bs old).size) (hN2 : (gb p.bs old).size ≤ 1000000000) {Q : Exit → Act → World → Prop} {a : Act} {ops : Array Oper} {id : Nat} (hops : Sym.regionOf Tryz.f61.body 10 = some (id,ops))
  (hS : St Tryz.f61.ntmps a [(0,Vp b),(11,vml),(12,Vi n),(13,Vi k),(3,Vi old),(4,.pointer (some ⟨gbs,0 + old * 4,none⟩)),(5,Vp B)])
  (hq : ∀ a' w',St Tryz.f61.ntmps a' [(0,Vp b),(11,vml),(12,Vi n),(13,Vi k),(5,Vp B)] → Hold base w0 w' (bX B x :: (ptR b { p with bs:=p.bs.set old { gb p.bs old with size:=(gb p.bs old).size - x.size } } ⟨vst,vpl,vbl,Vs gbs lbs cbs,vcs,vml⟩ ++ rest)) → Q .normal a' w') : (Code.region id ops true).wp Tryz.prog Q a w:=by
 cases hops
 refine any_cut 9 [(0,Vp b),(11,vml),(12,Vi n),(13,Vi k),(5,Vp B)] (fun w'=>Hold base w0 w' (bX B x :: (ptR b { p with bs:=p.bs.set old { gb p.bs old with size:=(gb p.bs old).size - x.size } } ⟨vst,vpl,vbl,Vs gbs lbs cbs,vcs,vml⟩ ++ rest))) mixed hS ?_ hq
 have hy : RowKit.Below w.drew.heap.size w.drew w.drew:=RowKit.Below.refl _ _
 have hD:=h.drew
 refine yT 0 tab_ok rfl (by kernel_rfl) hy rfl (rfl) ?_
 refine yT 1 tab_ok rfl (by kernel_rfl) hy rfl (rfl) ?_
 refine yT 2 tab_ok rfl (by kernel_rfl) hy rfl (rfl) ?_
 refine yL 3 tab_ok rfl (by kernel_rfl) hy rfl rfl (hD.r.cK1 (i:=5) rfl hold) ?_
 refine yT 4 tab_ok rfl (by kernel_rfl) hy rfl (rfl) ?_
 refine yL 5 tab_ok rfl (by kernel_rfl) hy rfl rfl (hD.r.xcell (i:=0) rfl (j:=1) rfl) ?_
 refine yT 6 tab_ok rfl (by kernel_rfl) hy rfl (Exists.intro _ (And.intro (i64_sub _ _ (by omega) (by omega)) rfl)) ?_
 refine yT 7 tab_ok rfl (by kernel_rfl) hy rfl (rfl) ?_
 refine yT 8 tab_ok rfl (by kernel_rfl) hy rfl (rfl) ?_
 refine y_one 9 (by kernel_rfl) (y_op0 9 tab_ok rfl rfl rfl ?_)
 refine And.intro rfl (And.intro rfl (And.intro ⟨_,hD.r.cK1 (i:=5) rfl hold⟩ (And.intro (hD.r.free (i:=5) rfl _) (And.intro (.inl (by kernel_rfl)) ?_))))
 exact y_end (by kernel_rfl) ⟨rfl,rfl,rfl,rfl,rfl,trivial⟩ (hD.storeK1 (i:=5) rfl old _)
theorem split_r14 {vm : Value} {m j t : Nat} (h : Hold base w0 w (bX B x :: (ptR b p ⟨vst,vpl,Vs gbl lbl cbl,Vs gbs lbs cbs,vcs,vml⟩ ++ rest))) (ht : t < p.bl.length) {Q : Exit → Act → World → Prop} {a : Act} {ops : Array Oper} {id : Nat} (hops : Sym.regionOf Tryz.f61.body 14 = some (id,ops))
  (hS : St Tryz.f61.ntmps a [(0,Vp b),(11,vml),(12,Vi n),(13,Vi k),(5,Vp B),(78,vm),(79,Vi m),(80,Vi j),(7,.int .i32 (t : Int))])
  (hq : ∀ a' w',St Tryz.f61.ntmps a' [(0,Vp b),(11,vml),(12,Vi n),(13,Vi k),(5,Vp B),(78,vm),(79,Vi m),(80,Vi j)] → Hold base w0 w' (bX B x :: (ptR b { p with bl:=p.bl.set t lbs } ⟨vst,vpl,Vs gbl lbl cbl,Vs gbs lbs cbs,vcs,vml⟩ ++ rest)) → Q .normal a' w') : (Code.region id ops true).wp Tryz.prog Q a w:=by
 cases hops
 refine any_cut 11 [(0,Vp b),(11,vml),(12,Vi n),(13,Vi k),(5,Vp B),(78,vm),(79,Vi m),(80,Vi j)] (fun w'=>Hold base w0 w' (bX B x :: (ptR b { p with bl:=p.bl.set t lbs } ⟨vst,vpl,Vs gbl lbl cbl,Vs gbs lbs cbs,vcs,vml⟩ ++ rest))) mixed hS ?_ hq
 have hy : RowKit.Below w.drew.heap.size w.drew w.drew:=RowKit.Below.refl _ _
 have hD:=h.drew
 refine yT 0 tab_ok rfl (by kernel_rfl) hy rfl (rfl) ?_
 refine yT 1 tab_ok rfl (by kernel_rfl) hy rfl (rfl) ?_
 refine yT 2 tab_ok rfl (by kernel_rfl) hy rfl (rfl) ?_
 refine yL 3 tab_ok rfl (by kernel_rfl) hy rfl rfl (hD.r.xcell (i:=1) rfl (j:=2) rfl) ?_
 refine yT 4 tab_ok rfl (by kernel_rfl) hy rfl (rfl) ?_
 refine yT 5 tab_ok rfl (by kernel_rfl) hy rfl (rfl) ?_
 refine yT 6 tab_ok rfl (by kernel_rfl) hy rfl (rfl) ?_
 refine yT 7 tab_ok rfl (by kernel_rfl) hy rfl (rfl) ?_
 refine yL 8 tab_ok rfl (by kernel_rfl) hy rfl rfl (hD.r.xcell (i:=1) rfl (j:=3) rfl) ?_
 refine yT 9 tab_ok rfl (by kernel_rfl) hy rfl (rfl) ?_
 refine yT 10 tab_ok rfl (by kernel_rfl) hy rfl (Exists.intro _ (And.intro (rfl) (And.intro ((by rw [hD.r.lenV (i:=4) rfl]; exact ht)) rfl))) ?_
 refine y_one 11 (by kernel_rfl) (y_op0 11 tab_ok rfl rfl rfl ?_)
 refine And.intro rfl (And.intro rfl (And.intro ⟨_,hD.r.cN (i:=4) rfl ht⟩ (And.intro (hD.r.free (i:=4) rfl _) (And.intro (.inl (by kernel_rfl)) ?_))))
 exact y_end (by kernel_rfl) ⟨rfl,rfl,rfl,rfl,rfl,rfl,rfl,rfl,trivial⟩ (hD.storeN (i:=4) rfl t _)
theorem fill4 (a b c d : Value) (cs : Array Value) (hs : cs.size = 4) : Instr.fill (fun i=>some (i * 4,4)) (madeCells cs 4) [(0,.agg #[a,b,c,d])] = some #[a,b,c,d]:=by
 have h : (Value.agg #[a,b,c,d]).cells = #[a,b,c,d]:=rfl
 simp [Instr.fill,madeCells,h,hs,Array.range,Array.foldl]
 rfl
theorem split_r16 (h : Hold base w0 w (bX B x :: (ptR b p ⟨vst,vpl,vbl,Vs gbs lbs cbs,vcs,vml⟩ ++ rest))) (hN : p.bs.length ≤ 1000000000) {Q : Exit → Act → World → Prop} {a : Act} {ops : Array Oper} {id : Nat} (hops : Sym.regionOf Tryz.f61.body 16 = some (id,ops))
  (hS : St Tryz.f61.ntmps a [(0,Vp b),(11,vml),(12,Vi n),(13,Vi k),(5,Vp B)])
  (hq : ∀ vbs' a' w',St Tryz.f61.ntmps a' [(0,Vp b),(11,vml),(12,Vi n),(13,Vi k)] → Hold base w0 w' (bX B x :: (ptR b { p with bs:=p.bs ++ [x] } ⟨vst,vpl,vbl,vbs',vcs,vml⟩ ++ rest)) → Q .normal a' w') : (Code.region id ops true).wp Tryz.prog Q a w:=by
 cases hops
 refine any_cutx (α:=Value) 7 (fun _=>[(0,Vp b),(11,vml),(12,Vi n),(13,Vi k)]) (fun vbs' w'=>Hold base w0 w' (bX B x :: (ptR b { p with bs:=p.bs ++ [x] } ⟨vst,vpl,vbl,vbs',vcs,vml⟩ ++ rest))) mixed hS ?_ hq
 have hy : RowKit.Below w.drew.heap.size w.drew w.drew:=RowKit.Below.refl _ _
 have hD:=h.drew
 refine yG 0 tab_ok rfl (by kernel_rfl) (.inr hy) rfl rfl ?_
 refine yT 1 tab_ok rfl (by kernel_rfl) hy rfl (rfl) ?_
 refine yT 2 tab_ok rfl (by kernel_rfl) hy rfl (rfl) ?_
 refine yT 3 tab_ok rfl (by kernel_rfl) hy rfl (rfl) ?_
 refine yL 4 tab_ok rfl (by kernel_rfl) hy rfl rfl (hD.r.xcell (i:=1) rfl (j:=3) rfl) ?_
 refine yT 5 tab_ok rfl (by kernel_rfl) hy rfl (Exists.intro ([Vi x.first,Vi x.size,Vi x.marked,Vi x.parent]) (And.intro rfl (And.intro (⟨hD.r.xcell (i:=0) rfl (j:=0) rfl,hD.r.xcell (i:=0) rfl (j:=1) rfl,hD.r.xcell (i:=0) rfl (j:=2) rfl,hD.r.xcell (i:=0) rfl (j:=3) rfl,trivial⟩) rfl))) ?_
 refine y_one 6 (by kernel_rfl) (y_op 6 tab_ok rfl rfl rfl rfl ?_)
 refine Exists.intro [(0,.agg #[Vi x.first,Vi x.size,Vi x.marked,Vi x.parent])] (Exists.intro #[Vi x.first,Vi x.size,Vi x.marked,Vi x.parent] (And.intro (And.intro rfl rfl) (And.intro (by decide) (And.intro (fill4 _ _ _ _ _ rfl) ?_))))
 have hy1:=hy.alloc (Nat.le_refl _) (.cells #[Vi x.first,Vi x.size,Vi x.marked,Vi x.parent] 91)
 refine And.intro (.inr hy1) ?_
 have h1:=hD.alloc (.cells #[Vi x.first,Vi x.size,Vi x.marked,Vi x.parent] 91)
 have ask : AppAsk (w.drew.alloc (.cells #[Vi x.first,Vi x.size,Vi x.marked,Vi x.parent] 91)) ⟨91,.struct [(0,3),(1,3),(2,3),(3,3)],4,32,.agg #[Vi 0,Vi 0,Vi 0,Vi 0]⟩ (Vs gbs lbs cbs) p.bs.length (blkCells p.bs) (Vs w.drew.heap.size 1 1) 1 [Vi x.first,Vi x.size,Vi x.marked,Vi x.parent] base:=
  ⟨h1.r.1 5 _ rfl,.inr ⟨_,0,_,rfl,cell_alloc_new rfl,cell_alloc_new rfl,cell_alloc_new rfl,cell_alloc_new rfl,trivial⟩,rfl,(by simp [Value.oneCell']),(by omega),(by show (p.bs.length + 1) * 32 ≤ _; omega),h1.s⟩
 refine y_one 7 (by kernel_rfl) (y_op 7 tab_ok rfl rfl rfl rfl ?_)
 refine Exists.intro _ (Exists.intro _ (Exists.intro _ (Exists.intro _ (Exists.intro _ (And.intro (ask) (And.intro (fun _ h=>h.symm) (And.intro (by decide) ?_)))))))
 rintro v' w2 hown hgr - hat
 refine And.intro (.inl (by kernel_rfl)) ?_
 have h2:=h1.appK (i:=5) rfl hown hgr hat
 obtain ⟨g2,n2,c2,hv⟩:=own_form hown
 subst hv
 refine yG 8 tab_ok rfl (by kernel_rfl) (.inl (by kernel_rfl)) rfl rfl ?_
 refine yG 9 tab_ok rfl (by kernel_rfl) (.inl (by kernel_rfl)) rfl rfl ?_
 refine y_one 10 (by kernel_rfl) (y_op0 10 tab_ok rfl rfl rfl ?_)
 refine And.intro rfl (And.intro rfl (And.intro ⟨_,h2.r.xcell (i:=1) rfl (j:=3) rfl⟩ (And.intro (h2.r.free (i:=1) rfl 3) (And.intro (.inl (by kernel_rfl)) ?_))))
 exact y_endx (.slice g2 n2 c2) (by kernel_rfl) ⟨rfl,rfl,rfl,rfl,trivial⟩ (h2.xstore (i:=1) rfl 3 (.slice g2 n2 c2))
end
theorem splitOne_same (q : Pt) (old : Nat) : (q.splitOne old).ml = q.ml ∧ (q.splitOne old).cs = q.cs ∧ (q.splitOne old).st = q.st ∧ (q.splitOne old).pl = q.pl:=by
 by_cases h : (gb q.bs old).marked = (gb q.bs old).size
 ·simp only [Pt.splitOne,if_pos h,and_self]
 ·simp only [Pt.splitOne,if_neg h,and_self]
theorem fold_same : ∀ (l : List Nat) (q : Pt),(l.foldl Pt.splitOne q).ml = q.ml ∧ (l.foldl Pt.splitOne q).cs = q.cs ∧ (l.foldl Pt.splitOne q).st = q.st ∧ (l.foldl Pt.splitOne q).pl = q.pl
 | [],q=>⟨rfl,rfl,rfl,rfl⟩
 | o :: r,q=>by
   have h1:=fold_same r (q.splitOne o)
   have h2:=splitOne_same q o
   exact ⟨h1.1.trans h2.1,h1.2.1.trans h2.2.1,h1.2.2.1.trans h2.2.2.1,h1.2.2.2.trans h2.2.2.2⟩
theorem decide_nat (a b : Nat) : decide ((a : Int) = (b : Int)) = decide (a = b):=by
 rw [Bool.eq_iff_iff]; simp; omega
theorem ge_nat (a b : Nat) : decide ((b : Int) ≤ (a : Int)) = decide (b ≤ a):=by
 rw [Bool.eq_iff_iff]; simp
theorem lt_nat (a b : Nat) : decide ((a : Int) < (b : Int)) = decide (a < b):=by
 rw [Bool.eq_iff_iff]; simp
section
variable {base : Nat} {w0 w : World} {b : Nat} {p : Pt} {N s : Nat} {rest : List Ow}
def SplitF (base : Nat) (w0 : World) (b : Nat) (vml : Value) (n k : Nat) (q : Pt) (rest : List Ow) (a : Act) (w : World) : Prop:=
 ∃ vst vpl vbl vbs vcs,St Tryz.f61.ntmps a [(0,Vp b),(11,vml),(12,Vi n),(13,Vi k)] ∧ Hold base w0 w (ptR b q ⟨vst,vpl,vbl,vbs,vcs,vml⟩ ++ rest)
theorem split_any (h : HoldP base w0 w b p rest) (hp : PI p N p.ml) (hlow : p.low ≤ p.bs.length) (hcs : 0 < p.cs.length) (hcl : p.cs.length ≤ 100000000) (hN : N ≤ 100000000) :
  Calls Tryz.prog 61 #[Vp b] w fun e w'=>e = .returned (.tuple #[]) ∧ HoldP base w0 w' b p.split rest:=by
 obtain ⟨⟨vst,vpl,vbl,vbs,vcs,vml⟩,h⟩:=h
 refine Sym.enter (args:=[Vp b]) Tryz.func61 rfl rfl rfl (fun a0 hS0=>?_)
 obtain ⟨gml,cml,rfl,hcml⟩:=h.r.any (i:=6) rfl
 obtain ⟨vml,hvml⟩ : ∃ v,v = Value.slice gml p.ml.length cml:=⟨_,rfl⟩
 obtain ⟨n,hn⟩ : ∃ n,n = p.ml.length:=⟨_,rfl⟩
 refine wp_seq (wp_seq (seq_cut [(0,Vp b),(11,vml),(12,Vi n),(13,Vi (0 : Nat))] (· = w) tab_ok hS0 ?_ (fun a w1 hS hw=>?_)))
 ·subst hvml; subst hn
  repeat first|refine zP rfl ?_|refine zK rfl ?_
  refine zL rfl (h.r.xcell (i:=0) rfl (j:=5) rfl) ?_
  repeat first|refine zP rfl ?_|refine zK rfl ?_
  exact o_nil ⟨⟨rfl,rfl,rfl,rfl,trivial⟩,rfl⟩
 subst hw
 rw [← hvml] at h
 refine wp_block (loop0 hS (fun g E w'=>∃ (k : Nat) (V : PV),k ≤ n ∧ g = n - k ∧ E = [(0,Vp b),(11,vml),(12,Vi n),(13,Vi k)] ∧ PI ((p.ml.take k).foldl Pt.splitOne p) N (p.ml.drop k) ∧ PH p ((p.ml.take k).foldl Pt.splitOne p) N ∧ V.ml = vml ∧ Hold base w0 w' (ptR b ((p.ml.take k).foldl Pt.splitOne p) V ++ rest)) n
  ⟨0,_,by omega,by omega,rfl,by simpa using hp,PH.refl _ _,rfl,h⟩ ?_)
 rintro g E w2 a ⟨k,⟨vst,vpl,vbl,vbs,vcs,vml'⟩,hk,rfl,rfl,hPI,hPH,hml,h⟩ hS
 simp only at hml
 subst hml
 refine wp_seq (seq_cut [(0,Vp b),(11,vml'),(12,Vi n),(13,Vi k),(14,.bool (decide (k < n)))] (· = w2) tab_ok hS ?_ (fun a w3 hS hw=>?_))
 ·repeat first|refine zP rfl ?_|refine zK rfl ?_
  refine zC rfl (lt_nat _ _) ?_
  repeat first|refine zP rfl ?_|refine zK rfl ?_
  exact o_nil ⟨⟨rfl,rfl,rfl,rfl,rfl,trivial⟩,rfl⟩
 subst hw
 refine wp_seq (cond hS rfl (fun hT=>?_) (fun hF=>?_))
 rotate_left
 ·have hkn : k = n:=by have:=of_decide_eq_false hF; omega
  subst hkn
  subst hn
  rw [List.take_length] at hPI hPH h
  refine wp_exit ?_
  repeat (first | refine then_exit ?_ | refine block_exit ?_ | refine block_other rfl ?_)
  obtain ⟨f1,f2,f3,f4⟩:=fold_same p.ml p
  subst hvml
  refine seq_cut [] (fun w4=>HoldP base w0 w4 b p.split rest) tab_ok hS ?_ (fun a w4 hS hw=>ret0 hS rfl ⟨rfl,hw⟩)
  repeat first|refine zP rfl ?_|refine zK rfl ?_
  refine zL rfl (h.r.xcell (i:=0) rfl (j:=5) rfl) ?_
  refine o_step rfl rfl rfl (Exists.intro 0 (Exists.intro 0 (And.intro rfl (And.intro ⟨_,_,rfl,rfl⟩ (And.intro (Nat.le_refl _) (And.intro (Nat.zero_le _) (And.intro hcml.1 ?_)))))))
  obtain ⟨u,hu⟩ : ∃ u,u = (Value.slice (if cml = 0 then gml else gml.map (·.add (0 * 1))) (0 - 0) (cml - 0)):=⟨_,rfl⟩
  have hrow : w3.ownsRow base 3 1 u 0 [] ∧ u.ownBlock = (Value.slice gml p.ml.length cml).ownBlock:=by
   have hr:=h.r.1 6 _ rfl
   have hu2 : u = .slice gml 0 cml:=by
    rw [hu]
    split
    ·rename_i e; subst e; rfl
    ·cases gml <;> simp [Addr.add]
   rw [hu2]
   rcases hr.2 with ⟨e1,e2⟩ | ⟨g',cap,cur,e1,e2,e3,e4,e5,e6,_⟩
   ·simp only [Value.slice.injEq] at e1
    obtain ⟨rfl,_,rfl⟩:=e1
    exact ⟨⟨rfl,.inl ⟨rfl,rfl⟩⟩,rfl⟩
   ·simp only [Value.slice.injEq] at e1
    obtain ⟨rfl,_,rfl⟩:=e1
    exact ⟨⟨rfl,.inr ⟨g',cml,cur,rfl,e2,e3,Nat.zero_le _,e5,e6,by simp⟩⟩,rfl⟩
  have hg : w3.grownBy w3 (Value.slice gml p.ml.length cml).ownBlock:=⟨rfl,rfl,rfl,Nat.le_refl _,fun _ _ _=>rfl⟩
  have h4 : Hold base w0 w3 ((ptR b (p.ml.foldl Pt.splitOne p) ⟨vst,vpl,vbl,vbs,vcs,Value.slice gml p.ml.length cml⟩ ++ rest).set 6 ⟨u,3,1,0,[]⟩):=
   ⟨h.r.turn (i:=6) rfl hg hrow.1 (.inl hrow.2),h.b,h.s⟩
  clear hrow
  refine cast (congrArg (fun v=>opsK _ _ _ _ _ _ ((112,v) :: _) _) hu) ?_
  have hun : ∃ g m c,u = .slice g m c:=⟨_,_,_,hu⟩
  clear hu
  obtain ⟨gu,mu,cu,rfl⟩:=hun
  repeat first|refine zP rfl ?_|refine zK rfl ?_
  refine zS rfl rfl (h4.r.xcell (i:=0) rfl (j:=5) rfl) (h4.r.free (i:=0) rfl 5) ?_
  exact o_nil ⟨trivial,⟨vst,vpl,vbl,vbs,vcs,Value.slice gu mu cu⟩,h4.xstore (i:=0) rfl 5 (Value.slice gu mu cu)⟩
 have hkn : k < n:=of_decide_eq_true hT
 refine wp_skip ?_
 obtain ⟨q,hq⟩ : ∃ q,q = (p.ml.take k).foldl Pt.splitOne p:=⟨_,rfl⟩
 rw [← hq] at hPI hPH h
 have hsame:=fold_same (p.ml.take k) p
 rw [← hq] at hsame
 obtain ⟨f1,f2,f3,f4⟩:=hsame
 have hkl : k < p.ml.length:=by omega
 obtain ⟨old,hold⟩ : ∃ old,old = p.ml[k]:=⟨_,rfl⟩
 have hgo : gt q.ml k = old:=by rw [f1,hold]; simp [gt,List.getD_eq_getElem?_getD,hkl]
 rw [List.drop_eq_getElem_cons hkl,← hold] at hPI
 have hob:=((hPI.tm old).1 (by simp)).1
 have hbd:=hPI.bd old hob
 have hml0:=((hPI.tm old).1 (by simp)).2
 have hfew:=hPI.few
 have hN0 : 0 < N:=by omega
 have hl1:=hPI.st
 have hl3:=hPI.bl
 have hqlow : q.low ≤ q.bs.length:=by
  have : q.low = p.low:=by unfold Pt.low; rw [f2]
  rw [this]; exact Nat.le_trans hlow hPH.len
 obtain ⟨gm,cm,rfl,-⟩:=h.r.nilOr (i:=6) rfl (by rw [f1]; omega)
 obtain ⟨gbs,cbs,rfl,-⟩:=h.r.nilOr (i:=4) rfl (by omega)
 obtain ⟨gbl,cbl,rfl,-⟩:=h.r.nilOr (i:=3) rfl (by omega)
 obtain ⟨gst,cst,rfl,hcst⟩:=h.r.nilOr (i:=1) rfl (by omega)
 obtain ⟨gcs,ccs,rfl,-⟩:=h.r.nilOr (i:=5) rfl (by rw [f2]; omega)
 obtain ⟨vml,hvm⟩ : ∃ v,v = Vs gm q.ml.length cm:=⟨_,rfl⟩
 refine wp_seq (cut (F:=SplitF base w0 b (Vs gm q.ml.length cm) n k (q.splitOne old) rest) ?_ ?_)
 ·refine wp_block (wp_seq (seq_cut [(0,Vp b),(11,Vs gm q.ml.length cm),(12,Vi n),(13,Vi k),(3,Vi old)] (· = w3) tab_ok hS ?_ (fun a w4 hS hw=>?_)))
  ·have hc:=h.r.cN (i:=6) rfl (j:=k) (by rw [f1]; omega)
   rw [hgo] at hc
   repeat first|refine zP rfl ?_|refine zK rfl ?_
   refine zI rfl (rfl) ((by rw [f1]; omega)) ?_
   refine zL rfl (hc) ?_
   repeat first|refine zP rfl ?_|refine zK rfl ?_
   exact o_nil ⟨⟨rfl,rfl,rfl,rfl,rfl,trivial⟩,rfl⟩
  subst hw
  rw [← hvm] at h hS ⊢
  refine wp_seq (seq_cut [(0,Vp b),(11,vml),(12,Vi n),(13,Vi k),(3,Vi old),(4,.pointer (some ⟨gbs,0 + old * 4,none⟩))] (· = w4) tab_ok hS ?_ (fun a w5 hS hw=>?_))
  ·repeat first|refine zP rfl ?_|refine zK rfl ?_
   refine zL rfl (h.r.xcell (i:=0) rfl (j:=3) rfl) ?_
   repeat first|refine zP rfl ?_|refine zK rfl ?_
   refine zI rfl (rfl) (hob) ?_
   repeat first|refine zP rfl ?_|refine zK rfl ?_
   exact o_nil ⟨⟨rfl,rfl,rfl,rfl,rfl,rfl,trivial⟩,rfl⟩
  subst hw
  refine wp_seq (split_r4 h hob (by rfl) hS (fun B a w6 hS h=>?_))
  refine wp_seq (seq_cut [(0,Vp b),(11,vml),(12,Vi n),(13,Vi k),(3,Vi old),(4,.pointer (some ⟨gbs,0 + old * 4,none⟩)),(5,Vp B)] (fun w7=>Hold base w0 w7 (bX B ⟨(gb q.bs old).first,(gb q.bs old).marked,0,old⟩ :: (ptR b { q with bs:=q.bs.set old { gb q.bs old with marked:=0 } } ⟨Vs gst q.st.length cst,vpl,Vs gbl q.bl.length cbl,Vs gbs q.bs.length cbs,Vs gcs q.cs.length ccs,vml⟩ ++ rest))) tab_ok hS ?_ (fun a w7 hS h=>?_))
  ·repeat first|refine zP rfl ?_|refine zK rfl ?_
   refine zS rfl rfl (h.r.cK2 (i:=5) rfl hob) (h.r.free (i:=5) rfl _) ?_
   exact o_nil ⟨⟨rfl,rfl,rfl,rfl,rfl,rfl,rfl,trivial⟩,h.storeK2 (i:=5) rfl old 0⟩
  have gself : ∀ x,gb (q.bs.set old x) old = x:=fun x=>by rw [gb_set,if_pos ⟨rfl,hob⟩]
  have hob' : ∀ x : Blk,old < (q.bs.set old x).length:=fun x=>by rw [List.length_set]; exact hob
  refine wp_seq (wp_seq (quiet_cut [(0,Vp b),(11,vml),(12,Vi n),(13,Vi k),(3,Vi old),(4,.pointer (some ⟨gbs,0 + old * 4,none⟩)),(5,Vp B),(42,.bool (decide ((gb q.bs old).marked = (gb q.bs old).size)))] tab_ok mixed (by kernel_rfl) hS ?_ (fun a w8 hS hw=>?_)))
  ·have hcmp : decide (((gb q.bs old).marked : Int) = (((gb (q.bs.set old { gb q.bs old with marked:=0 }) old).size : Nat) : Int)) = decide ((gb q.bs old).marked = (gb q.bs old).size):=by rw [gself]; exact decide_nat _ _
   repeat first|refine qP rfl ?_|refine qK rfl ?_
   refine qL rfl (h.r.xcell (i:=0) rfl (j:=1) rfl) ?_
   repeat first|refine qP rfl ?_|refine qK rfl ?_
   refine qL rfl (h.r.cK1 (i:=5) rfl (hob' _)) ?_
   refine qC rfl (hcmp) ?_
   repeat first|refine qP rfl ?_|refine qK rfl ?_
   exact q_nil ⟨rfl,rfl,rfl,rfl,rfl,rfl,rfl,rfl,trivial⟩
  replace h:=h.below hw
  clear hw
  refine cond hS rfl (fun hT=>?_) (fun hF=>?_)
  ·have hall:=of_decide_eq_true hT
   refine wp_exit ?_
   repeat (first | refine then_exit ?_ | refine block_exit ?_ | refine block_other rfl ?_)
   have e : q.splitOne old = { q with bs:=q.bs.set old { gb q.bs old with marked:=0 } }:=by simp only [Pt.splitOne,if_pos hall]
   show SplitF base w0 b vml n k (q.splitOne old) rest a w8
   rw [e]
   exact ⟨_,_,_,_,_,hS.sub ⟨rfl,rfl,rfl,rfl,trivial⟩,h.tail⟩
  have hne:=of_decide_eq_false hF
  refine wp_skip ?_
  obtain ⟨par,hpar⟩ : ∃ par,(if q.low ≤ old then (gb q.bs old).parent else old) = par:=⟨_,rfl⟩
  have hlowc : q.cs.length - 1 < q.cs.length:=by rw [f2]; omega
  refine wp_seq (cut (F:=fun a' w'=>St Tryz.f61.ntmps a' [(0,Vp b),(11,vml),(12,Vi n),(13,Vi k),(3,Vi old),(4,.pointer (some ⟨gbs,0 + old * 4,none⟩)),(5,Vp B)] ∧ Hold base w0 w' (bX B ⟨(gb q.bs old).first,(gb q.bs old).marked,0,par⟩ :: (ptR b { q with bs:=q.bs.set old { gb q.bs old with marked:=0 } } ⟨Vs gst q.st.length cst,vpl,Vs gbl q.bl.length cbl,Vs gbs q.bs.length cbs,Vs gcs q.cs.length ccs,vml⟩ ++ rest))) ?_ ?_)
  ·refine wp_seq (quiet_cut [(0,Vp b),(11,vml),(12,Vi n),(13,Vi k),(3,Vi old),(4,.pointer (some ⟨gbs,0 + old * 4,none⟩)),(5,Vp B),(52,.bool (decide (q.low ≤ old)))] tab_ok mixed (by kernel_rfl) hS ?_ (fun a w9 hS hw=>?_))
   ·repeat first|refine qP rfl ?_|refine qK rfl ?_
    refine qL rfl (h.r.xcell (i:=1) rfl (j:=4) rfl) ?_
    repeat first|refine qP rfl ?_|refine qK rfl ?_
    refine qF (Vi (q.cs.length - 1 : Nat)) rfl (en_round) (fun w1 h1=>round_any (p:={ q with bs:=q.bs.set old { gb q.bs old with marked:=0 } }) (h.below h1).tail (by show 0 < q.cs.length; omega) (by show q.cs.length ≤ _; rw [f2]; omega)) ?_
    repeat first|refine qP rfl ?_|refine qK rfl ?_
    refine qI rfl (rfl) (hlowc) ?_
    refine qL rfl (h.r.cN (i:=6) rfl hlowc) ?_
    refine qC rfl (ge_nat _ _) ?_
    repeat first|refine qP rfl ?_|refine qK rfl ?_
    exact q_nil ⟨rfl,rfl,rfl,rfl,rfl,rfl,rfl,rfl,trivial⟩
   replace h:=h.below hw
   refine cond hS rfl (fun hT=>?_) (fun hF=>?_)
   ·rw [if_pos (of_decide_eq_true hT)] at hpar
    refine seq_cut [(0,Vp b),(11,vml),(12,Vi n),(13,Vi k),(3,Vi old),(4,.pointer (some ⟨gbs,0 + old * 4,none⟩)),(5,Vp B)] (fun w'=>Hold base w0 w' (bX B ⟨(gb q.bs old).first,(gb q.bs old).marked,0,par⟩ :: (ptR b { q with bs:=q.bs.set old { gb q.bs old with marked:=0 } } ⟨Vs gst q.st.length cst,vpl,Vs gbl q.bl.length cbl,Vs gbs q.bs.length cbs,Vs gcs q.cs.length ccs,vml⟩ ++ rest))) tab_ok hS ?_ (fun a' w' hS h=>⟨hS,h⟩)
    have hc:=h.r.cK3 (i:=5) rfl (hob' _)
    dsimp only at hc
    rw [gself] at hc
    simp only [hpar] at hc
    repeat first|refine zP rfl ?_|refine zK rfl ?_
    refine zL rfl (hc) ?_
    repeat first|refine zP rfl ?_|refine zK rfl ?_
    refine zS rfl rfl (h.r.xcell (i:=0) rfl (j:=3) rfl) (h.r.free (i:=0) rfl 3) ?_
    exact o_nil ⟨⟨rfl,rfl,rfl,rfl,rfl,rfl,rfl,trivial⟩,h.xstore (i:=0) rfl 3 (Vi par)⟩
   ·rw [if_neg (of_decide_eq_false hF)] at hpar
    subst hpar
    exact wp_skip ⟨hS.sub ⟨rfl,rfl,rfl,rfl,rfl,rfl,rfl,trivial⟩,h⟩
  clear h hS
  rintro a w9 ⟨hS,h⟩
  refine wp_seq (split_r9 h (by simpa using hob) (by simp only [gb_set,hob,and_self,if_true]; omega) (by rfl) hS (fun a w10 hS h=>?_))
  refine wp_seq (split_r10 h (by simpa using hob) (by simp only [gb_set,List.length_set,hob,and_self,if_true]; omega) (by simp only [gb_set,List.length_set,hob,and_self,if_true]; omega) (by rfl) hS (fun a w11 hS h=>?_))
  have hbs2 : ((q.bs.set old { gb q.bs old with marked:=0 }).set old { gb (q.bs.set old { gb q.bs old with marked:=0 }) old with first:=(gb (q.bs.set old { gb q.bs old with marked:=0 }) old).first + (gb q.bs old).marked }).set old { gb ((q.bs.set old { gb q.bs old with marked:=0 }).set old { gb (q.bs.set old { gb q.bs old with marked:=0 }) old with first:=(gb (q.bs.set old { gb q.bs old with marked:=0 }) old).first + (gb q.bs old).marked }) old with size:=(gb ((q.bs.set old { gb q.bs old with marked:=0 }).set old { gb (q.bs.set old { gb q.bs old with marked:=0 }) old with first:=(gb (q.bs.set old { gb q.bs old with marked:=0 }) old).first + (gb q.bs old).marked }) old).size - (gb q.bs old).marked } =
    q.bs.set old ⟨(gb q.bs old).first + (gb q.bs old).marked,(gb q.bs old).size - (gb q.bs old).marked,0,(gb q.bs old).parent⟩:=by
   simp only [List.set_set,gself]
  obtain ⟨bs2,hbs2'⟩ : ∃ bs2,bs2 = q.bs.set old ⟨(gb q.bs old).first + (gb q.bs old).marked,(gb q.bs old).size - (gb q.bs old).marked,0,(gb q.bs old).parent⟩:=⟨_,rfl⟩
  have hlen2 : bs2.length = q.bs.length:=by rw [hbs2',List.length_set]
  have h2 : Hold base w0 w11 (bX B ⟨(gb q.bs old).first,(gb q.bs old).marked,0,par⟩ :: (ptR b { q with bs:=bs2 } ⟨Vs gst q.st.length cst,vpl,Vs gbl q.bl.length cbl,Vs gbs q.bs.length cbs,Vs gcs q.cs.length ccs,vml⟩ ++ rest)):=by
   rw [hbs2',← hbs2]
   exact h
  clear h hbs2
  have h:=h2
  clear h2
  obtain ⟨m,hm⟩ : ∃ m,m = (gb q.bs old).marked:=⟨_,rfl⟩
  obtain ⟨fs,hfs⟩ : ∃ fs,fs = (gb q.bs old).first:=⟨_,rfl⟩
  rw [← hm,← hfs] at h
  rw [← hm,← hfs] at hbd
  rw [← hm] at hml0 hne
  obtain ⟨vm,hvmm⟩ : ∃ v,v = Value.slice (some ⟨gst,fs,none⟩) m (cst - fs):=⟨_,rfl⟩
  refine wp_seq (wp_seq (seq_cut [(0,Vp b),(11,vml),(12,Vi n),(13,Vi k),(5,Vp B),(78,vm),(79,Vi m),(80,Vi (0 : Nat))] (fun w'=>Hold base w0 w' (bX B ⟨fs,m,0,par⟩ :: (ptR b { q with bs:=bs2 } ⟨Vs gst q.st.length cst,vpl,Vs gbl q.bl.length cbl,Vs gbs q.bs.length cbs,Vs gcs q.cs.length ccs,vml⟩ ++ rest))) tab_ok hS ?_ (fun a w12 hS h=>?_)))
  ·repeat first|refine zP rfl ?_|refine zK rfl ?_
   refine zA ([Vi fs,Vi m,Vi (0 : Nat),Vi par]) rfl rfl (⟨h.r.xcell (i:=0) rfl (j:=0) rfl,h.r.xcell (i:=0) rfl (j:=1) rfl,h.r.xcell (i:=0) rfl (j:=2) rfl,h.r.xcell (i:=0) rfl (j:=3) rfl,trivial⟩) ?_
   refine zF rfl (en_members) (members_any (p:={ q with bs:=bs2 }) h.tail (k:=m) (by omega) (by dsimp only; omega) (by dsimp only; omega)) ?_
   rintro e w13 ⟨rfl,hw⟩
   refine ⟨_,rfl,?_⟩
   repeat first|refine zP rfl ?_|refine zK rfl ?_
   subst hvmm
   exact o_nil ⟨⟨rfl,rfl,rfl,rfl,rfl,rfl,rfl,rfl,trivial⟩,h.below hw⟩
  have hlb : q.bs.length = bs2.length:=hlen2.symm
  refine wp_block (loop0 hS (fun g E w'=>∃ j : Nat,j ≤ m ∧ g = m - j ∧ E = [(0,Vp b),(11,vml),(12,Vi n),(13,Vi k),(5,Vp B),(78,vm),(79,Vi m),(80,Vi j)] ∧ Hold base w0 w' (bX B ⟨fs,m,0,par⟩ :: (ptR b { q with bs:=bs2,bl:=relabel q.st q.bs.length q.bl fs j } ⟨Vs gst q.st.length cst,vpl,Vs gbl q.bl.length cbl,Vs gbs q.bs.length cbs,Vs gcs q.cs.length ccs,vml⟩ ++ rest))) m
   ⟨0,by omega,by omega,rfl,h⟩ ?_)
  clear h hS
  rintro g E w13 a ⟨j,hj,rfl,rfl,h⟩ hS
  refine wp_seq (seq_cut [(0,Vp b),(11,vml),(12,Vi n),(13,Vi k),(5,Vp B),(78,vm),(79,Vi m),(80,Vi j),(81,.bool (decide (j < m)))] (· = w13) tab_ok hS ?_ (fun a w14 hS hw=>?_))
  ·repeat first|refine zP rfl ?_|refine zK rfl ?_
   refine zC rfl (lt_nat _ _) ?_
   repeat first|refine zP rfl ?_|refine zK rfl ?_
   exact o_nil ⟨⟨rfl,rfl,rfl,rfl,rfl,rfl,rfl,rfl,rfl,trivial⟩,rfl⟩
  subst hw
  refine wp_seq (cond hS rfl (fun hT=>wp_skip ?_) (fun hF=>?_))
  rotate_left
  ·have hjm : j = m:=by have:=of_decide_eq_false hF; omega
   subst hjm
   refine wp_exit ?_
   repeat (first | refine then_exit ?_ | refine block_exit ?_ | refine block_other rfl ?_)
   refine split_r16 h (by dsimp only; omega) (by rfl) (hS.sub ⟨rfl,rfl,rfl,rfl,rfl,trivial⟩) (fun vbs' a w15 hS h=>?_)
   have e : q.splitOne old = { q with bs:=bs2 ++ [⟨fs,j,0,par⟩],bl:=relabel q.st q.bs.length q.bl fs j }:=by
    simp only [Pt.splitOne,← hm,← hfs,if_neg hne,hpar,hbs2']
   refine block_normal ?_
   show SplitF base w0 b vml n k (q.splitOne old) rest a w15
   rw [e]
   exact ⟨_,_,_,_,_,hS,h.tail⟩
  have hjm : j < m:=of_decide_eq_true hT
  have hsp:=(hPI.sp (fs + j) (by omega)).1
  refine wp_seq (wp_block (wp_seq (seq_cut [(0,Vp b),(11,vml),(12,Vi n),(13,Vi k),(5,Vp B),(78,vm),(79,Vi m),(80,Vi j),(7,.int .i32 (gt q.st (fs + j) : Int))] (· = w14) tab_ok hS ?_ (fun a w15 hS hw=>?_))))
  ·have hc:=h.r.cS (i:=2) rfl (j:=fs + j) (by dsimp only; omega)
   rw [Nat.zero_add] at hc
   subst hvmm
   repeat first|refine zP rfl ?_|refine zK rfl ?_
   refine zI rfl (rfl) (hjm) ?_
   refine zL rfl (hc) ?_
   repeat first|refine zP rfl ?_|refine zK rfl ?_
   exact o_nil ⟨⟨rfl,rfl,rfl,rfl,rfl,rfl,rfl,rfl,rfl,trivial⟩,rfl⟩
  subst hw
  refine split_r14 h (by dsimp only; rw [relabel_len,hl3]; exact hsp) (by rfl) hS (fun a w16 hS h=>?_)
  refine block_normal ?_
  refine seq_cut [(0,Vp b),(11,vml),(12,Vi n),(13,Vi k),(5,Vp B),(78,vm),(79,Vi m),(80,Vi (j + 1 : Nat))] (· = w16) tab_ok hS ?_ (fun a w17 hS hw=>?_)
  ·repeat first|refine zP rfl ?_|refine zK rfl ?_
   refine zN rfl (i64_add _ 1 (by omega)) ?_
   repeat first|refine zP rfl ?_|refine zK rfl ?_
   exact o_nil ⟨⟨rfl,rfl,rfl,rfl,rfl,rfl,rfl,rfl,trivial⟩,rfl⟩
  subst hw
  refine ⟨m - (j + 1),_,by omega,⟨j + 1,by omega,rfl,rfl,?_⟩,hS⟩
  rw [relabel_succ]
  exact h
 clear h hS
 rintro a w4 ⟨vst,vpl,vbl,vbs,vcs,hS,h⟩
 refine seq_cut [(0,Vp b),(11,Vs gm q.ml.length cm),(12,Vi n),(13,Vi (k + 1 : Nat))] (· = w4) tab_ok hS ?_ (fun a w5 hS hw=>?_)
 ·repeat first|refine zP rfl ?_|refine zK rfl ?_
  refine zN rfl (i64_add _ 1 (by omega)) ?_
  repeat first|refine zP rfl ?_|refine zK rfl ?_
  exact o_nil ⟨⟨rfl,rfl,rfl,rfl,trivial⟩,rfl⟩
 subst hw
 have hfold : (p.ml.take (k + 1)).foldl Pt.splitOne p = q.splitOne old:=by
  rw [List.take_succ_eq_append_getElem hkl,List.foldl_append,← hq,← hold]; rfl
 obtain ⟨h1,h2,h3,h4⟩:=splitOne_ok hqlow hPI
 refine ⟨n - (k + 1),_,by omega,⟨k + 1,⟨vst,vpl,vbl,vbs,vcs,Vs gm q.ml.length cm⟩,by omega,rfl,rfl,?_,?_,rfl,?_⟩,hS⟩
 ·rw [hfold]; exact h1
 ·rw [hfold]; exact hPH.trans hlow h4
 ·rw [hfold]; exact h
end
end Go.Proofs.YthcoppfiahnpoaaGreat
namespace Go.Proofs.YthcoppfiahnpoaaGreat
open Go Sym
theorem en_endRound : enters Tryz.prog 63 = true:=by kernel_rfl
theorem en_goBack : enters Tryz.prog 66 = true:=by kernel_rfl
theorem en_apart : enters Tryz.prog 32 = true:=by kernel_rfl
theorem en_whole : enters Tryz.prog 59 = true:=by kernel_rfl
theorem en_split : enters Tryz.prog 61 = true:=by kernel_rfl
theorem gt_nat (a b : Nat) : decide ((b : Int) < (a : Int)) = decide (b < a):=lt_nat b a
theorem ne_nat (a b : Nat) : decide ((a : Int) ≠ (b : Int)) = decide (a ≠ b):=by
 rw [Bool.eq_iff_iff]; simp; omega
section
variable {base : Nat} {w0 w : World} {b : Nat} {p : Pt} {N s : Nat} {rest : List Ow}
theorem endRound_any (h : HoldP base w0 w b p rest) (hcs : 0 < p.cs.length) (hcl : p.cs.length ≤ 100000000) :
  Calls Tryz.prog 63 #[Vp b] w fun e w'=>e = .returned (.bool (decide (p.low < p.bs.length))) ∧ HoldP base w0 w' b p.endR rest:=by
 obtain ⟨⟨vst,vpl,vbl,vbs,vcs,vml⟩,h⟩:=h
 refine Sym.enter (args:=[Vp b]) Tryz.func63 rfl rfl rfl (fun a0 hS0=>?_)
 obtain ⟨gcs,ccs,rfl,-⟩:=h.r.nilOr (i:=5) rfl hcs
 obtain ⟨gbs,cbs,rfl,-⟩:=h.r.any (i:=4) rfl
 refine wp_seq (seq_cut [(0,Vp b)] (· = w) tab_ok hS0 ?_ (fun a w1 hS hw=>?_))
 ·repeat first|refine zP rfl ?_|refine zK rfl ?_
  exact o_nil ⟨⟨rfl,trivial⟩,rfl⟩
 subst hw
 refine wp_seq (any_cutx (α:=Value) 11 (fun _=>[(0,Vp b)]) (fun vcs' w'=>Hold base w0 w' (ptR b p.endR ⟨vst,vpl,vbl,.slice gbs p.bs.length cbs,vcs',vml⟩ ++ rest)) mixed hS ?_ (fun vcs' a w2 hS h=>?_))
 ·have hy : RowKit.Below w1.drew.heap.size w1.drew w1.drew:=RowKit.Below.refl _ _
  have hD:=h.drew
  refine yG 0 tab_ok rfl (by kernel_rfl) (.inr hy) rfl rfl ?_
  refine yT 1 tab_ok rfl (by kernel_rfl) hy rfl (rfl) ?_
  refine yT 2 tab_ok rfl (by kernel_rfl) hy rfl (rfl) ?_
  refine yT 3 tab_ok rfl (by kernel_rfl) hy rfl (rfl) ?_
  refine yL 4 tab_ok rfl (by kernel_rfl) hy rfl rfl (hD.r.xcell (i:=0) rfl (j:=4) rfl) ?_
  refine yT 5 tab_ok rfl (by kernel_rfl) hy rfl (rfl) ?_
  refine yT 6 tab_ok rfl (by kernel_rfl) hy rfl (rfl) ?_
  refine yT 7 tab_ok rfl (by kernel_rfl) hy rfl (rfl) ?_
  refine yL 8 tab_ok rfl (by kernel_rfl) hy rfl rfl (hD.r.xcell (i:=0) rfl (j:=3) rfl) ?_
  refine yT 9 tab_ok rfl (by kernel_rfl) hy rfl (rfl) ?_
  refine y_one 10 (by kernel_rfl) (y_op 10 tab_ok rfl rfl rfl rfl ?_)
  refine Exists.intro [(0,Vi ((p.bs.length : Int)))] (Exists.intro #[Vi ((p.bs.length : Int))] (And.intro (And.intro rfl rfl) (And.intro (by decide) (And.intro (fillI _ _ _) ?_))))
  have hy1:=hy.alloc (Nat.le_refl _) (.cells #[Vi p.bs.length] 3)
  refine And.intro (.inr hy1) ?_
  have h1:=hD.alloc (.cells #[Vi p.bs.length] 3)
  have ask : AppAsk (w1.drew.alloc (.cells #[Vi p.bs.length] 3)) ⟨3,.int .i64,1,8,Vi 0⟩ (Vs gcs p.cs.length ccs) p.cs.length (nats p.cs) (Vs w1.drew.heap.size 1 1) 1 [Vi p.bs.length] base:=
   ⟨h1.r.1 5 _ rfl,.inr ⟨_,0,_,rfl,cell_alloc_new rfl,trivial⟩,rfl,(by simp [Value.oneCell']),(by omega),(by show (p.cs.length + 1) * 8 ≤ _; omega),h1.s⟩
  refine y_one 11 (by kernel_rfl) (y_op 11 tab_ok rfl rfl rfl rfl ?_)
  refine Exists.intro _ (Exists.intro _ (Exists.intro _ (Exists.intro _ (Exists.intro _ (And.intro (ask) (And.intro (fun _ h=>h.symm) (And.intro (by decide) ?_)))))))
  rintro v' w2 hown hgr - hat
  refine And.intro (.inl (by kernel_rfl)) ?_
  have h2:=h1.appN (i:=5) rfl hown hgr hat
  obtain ⟨g2,n2,c2,hv⟩:=own_form hown
  subst hv
  refine yG 12 tab_ok rfl (by kernel_rfl) (.inl (by kernel_rfl)) rfl rfl ?_
  refine yG 13 tab_ok rfl (by kernel_rfl) (.inl (by kernel_rfl)) rfl rfl ?_
  refine y_one 14 (by kernel_rfl) (y_op0 14 tab_ok rfl rfl rfl ?_)
  refine And.intro rfl (And.intro rfl (And.intro ⟨_,h2.r.xcell (i:=0) rfl (j:=4) rfl⟩ (And.intro (h2.r.free (i:=0) rfl 4) (And.intro (.inl (by kernel_rfl)) ?_))))
  exact y_endx (.slice g2 n2 c2) (by kernel_rfl) ⟨rfl,trivial⟩ (h2.xstore (i:=0) rfl 4 (.slice g2 n2 c2))
 have hl : p.endR.cs.length = p.cs.length + 1:=by simp [Pt.endR]
 obtain ⟨gc,cc,rfl,-⟩:=h.r.nilOr (i:=5) rfl (by rw [hl]; omega)
 have e1 : gt p.endR.cs (p.endR.cs.length - 1) = p.bs.length:=by
  rw [hl]; exact gt_snoc'
 have e2 : gt p.endR.cs (p.endR.cs.length - 1 - 1) = p.low:=by
  rw [hl]; exact gt_snoc (by omega)
 have hi1 : p.endR.cs.length - 1 < p.endR.cs.length:=by omega
 have hi2 : p.endR.cs.length - 1 - 1 < p.endR.cs.length:=by omega
 refine wp_seq (quiet_cut [(2,.bool (decide (p.low < p.bs.length)))] tab_ok mixed (by kernel_rfl) hS ?_ (fun a w3 hS hw=>?_))
 ·have c1:=h.r.cN (i:=5) rfl hi1
  have c2:=h.r.cN (i:=5) rfl hi2
  rw [e1] at c1
  rw [e2] at c2
  repeat first|refine qP rfl ?_|refine qK rfl ?_
  refine qL rfl (h.r.xcell (i:=0) rfl (j:=4) rfl) ?_
  repeat first|refine qP rfl ?_|refine qK rfl ?_
  refine qF (Vi (p.endR.cs.length - 1 : Nat)) rfl (en_round) (fun w1 h1=>round_any (h.below h1) (by omega) (by omega)) ?_
  refine qI rfl (rfl) (hi1) ?_
  refine qL rfl (c1) ?_
  repeat first|refine qP rfl ?_|refine qK rfl ?_
  refine qL rfl (h.r.xcell (i:=0) rfl (j:=4) rfl) ?_
  repeat first|refine qP rfl ?_|refine qK rfl ?_
  refine qF (Vi (p.endR.cs.length - 1 : Nat)) rfl (en_round) (fun w1 h1=>round_any (h.below h1) (by omega) (by omega)) ?_
  refine qN rfl (i64_sub _ 1 (by omega) (by omega)) ?_
  refine qI rfl (rfl) (hi2) ?_
  refine qL rfl (c2) ?_
  refine qC rfl (lt_nat _ _) ?_
  repeat first|refine qP rfl ?_|refine qK rfl ?_
  exact q_nil ⟨rfl,trivial⟩
 refine wp_ret ?_
 repeat (first | refine then_ret ?_ | refine block_ret ?_)
 exact ret1 hS rfl rfl ⟨rfl,⟨_,h.below hw⟩⟩
def Backs (lev : Nat → Nat → Nat) (N R r : Nat) (bl : List Nat) : Prop:=bl.length = N ∧ ∀ s,s < N → ∃ q,r ≤ q ∧ q ≤ R ∧ gt bl s = lev q s
theorem Backs.mono {lev : Nat → Nat → Nat} {R r r' : Nat} {bl : List Nat} (h : Backs lev N R r bl) (hr : r' ≤ r) : Backs lev N R r' bl:=⟨h.1,fun s hs=>by
 obtain ⟨q,h1,h2,h3⟩:=h.2 s hs
 exact ⟨q,by omega,h2,h3⟩⟩
theorem Backs.set {lev : Nat → Nat → Nat} {R r q : Nat} {bl : List Nat} (h : Backs lev N R r bl) (h1 : r ≤ q) (h2 : q ≤ R) : Backs lev N R r (bl.set s (lev q s)):=⟨by rw [List.length_set]; exact h.1,fun t ht=>by
 rw [gt_set]
 split
 ·rename_i e
  rw [← e.1]
  exact ⟨q,h1,h2,rfl⟩
 ·exact h.2 t ht⟩
theorem goBack_any {L R r : Nat} {dl : Nat → Nat → Nat} {en : Nat → Bool} {lev : Nat → Nat → Nat} {bl : List Nat} (hL : Lev L dl en p N lev R) (hbl : Backs lev N R r bl) (hs : s < N) (hr : r ≤ R) (hN : N ≤ 100000000) (hbs : p.bs.length ≤ 100000000)
  (h : HoldP base w0 w b { p with bl:=bl } rest) :
  Calls Tryz.prog 66 #[Vp b,Vi s,Vi r] w fun e w'=>e = .returned (Vi (lev r s : Int)) ∧ HoldP base w0 w' b { p with bl:=bl.set s (lev r s) } rest:=by
 obtain ⟨⟨vst,vpl,vbl,vbs,vcs,vml⟩,h⟩:=h
 refine Sym.enter (args:=[Vp b,Vi s,Vi r]) Tryz.func66 rfl rfl rfl (fun a0 hS0=>?_)
 refine wp_seq (seq_cut [(0,Vp b),(1,Vi s),(2,Vi r)] (· = w) tab_ok hS0 ?_ (fun a w1 hS hw=>?_))
 ·repeat first|refine zP rfl ?_|refine zK rfl ?_
  exact o_nil ⟨⟨rfl,rfl,rfl,trivial⟩,rfl⟩
 subst hw
 have hbl1:=hbl.1
 have hcs:=hL.cs
 obtain ⟨q0,hq1,hq2,hq3⟩:=hbl.2 s hs
 refine wp_seq (wp_block (loop0 hS (fun g E w'=>∃ (q : Nat) (V : PV),r ≤ q ∧ q ≤ R ∧ g = q ∧ E = [(0,Vp b),(1,Vi s),(2,Vi r)] ∧ Hold base w0 w' (ptR b { p with bl:=bl.set s (lev q s) } V ++ rest)) q0 ⟨q0,_,hq1,hq2,rfl,rfl,(by
  rw [← hq3]
  have : bl.set s (gt bl s) = bl:=by
   simp only [gt,List.getD_eq_getElem?_getD,List.getElem?_eq_getElem (show s < bl.length by omega),Option.getD_some,List.set_getElem_self]
  rw [this]; exact h)⟩ ?_))
 clear h hS
 rintro g E w2 a ⟨q,⟨vst,vpl,vbl,vbs,vcs,vml⟩,h1,h2,rfl,rfl,h⟩ hS
 have hlb : (bl.set s (lev g s)).length = N:=by rw [List.length_set]; exact hbl1
 obtain ⟨gbl,cbl,rfl,-⟩:=h.r.nilOr (i:=3) rfl (by dsimp only; omega)
 obtain ⟨gcs,ccs,rfl,-⟩:=h.r.nilOr (i:=5) rfl (by dsimp only; omega)
 have hg : gt (bl.set s (lev g s)) s = lev g s:=by rw [gt_set,if_pos ⟨rfl,by omega⟩]
 have hlt:=hL.lt g h2 s hs
 have hcl:=hL.csLe h2
 refine wp_seq (wp_seq (quiet_cut [(0,Vp b),(1,Vi s),(2,Vi r),(21,.bool (decide (gt p.cs r ≤ lev g s)))] tab_ok mixed (by kernel_rfl) hS ?_ (fun a w3 hS hw=>?_)))
 ·have c1:=h.r.cN (i:=3) rfl (j:=s) (by dsimp only; omega)
  dsimp only at c1
  rw [hg] at c1
  repeat first|refine qP rfl ?_|refine qK rfl ?_
  refine qL rfl (h.r.xcell (i:=0) rfl (j:=2) rfl) ?_
  repeat first|refine qP rfl ?_|refine qK rfl ?_
  refine qI rfl (rfl) ((by dsimp only; omega)) ?_
  refine qL rfl (c1) ?_
  repeat first|refine qP rfl ?_|refine qK rfl ?_
  refine qL rfl (h.r.xcell (i:=0) rfl (j:=4) rfl) ?_
  repeat first|refine qP rfl ?_|refine qK rfl ?_
  refine qI rfl (rfl) ((by dsimp only; omega)) ?_
  refine qL rfl (h.r.cN (i:=5) rfl (j:=r) (by dsimp only; omega)) ?_
  refine qC rfl (ge_nat _ _) ?_
  repeat first|refine qP rfl ?_|refine qK rfl ?_
  exact q_nil ⟨rfl,rfl,rfl,rfl,trivial⟩
 replace h:=h.below hw
 clear hw
 refine cond hS rfl (fun hT=>wp_skip ?_) (fun hF=>?_)
 rotate_left
 ·have hge:=of_decide_eq_false hF
  have he:=hL.there (r:=r) hs (g - r) g (by omega) h2 (by omega)
  refine wp_exit ?_
  repeat (first | refine then_exit ?_ | refine block_exit ?_ | refine block_other rfl ?_)
  refine wp_seq (seq_cut [(6,Vi (lev r s : Int))] (· = w3) tab_ok hS ?_ (fun a w4 hS hw=>?_))
  ·have c1:=h.r.cN (i:=3) rfl (j:=s) (by dsimp only; omega)
   dsimp only at c1
   rw [hg,he] at c1
   repeat first|refine zP rfl ?_|refine zK rfl ?_
   refine zL rfl (h.r.xcell (i:=0) rfl (j:=2) rfl) ?_
   repeat first|refine zP rfl ?_|refine zK rfl ?_
   refine zI rfl (rfl) ((by dsimp only; omega)) ?_
   refine zL rfl (c1) ?_
   repeat first|refine zP rfl ?_|refine zK rfl ?_
   exact o_nil ⟨⟨rfl,trivial⟩,rfl⟩
  subst hw
  rw [he] at h
  refine wp_ret ?_
  repeat (first | refine then_ret ?_ | refine block_ret ?_)
  exact ret1 hS rfl rfl ⟨rfl,⟨_,h⟩⟩
 have hge:=of_decide_eq_true hT
 obtain ⟨q',k1,k2,k3⟩:=hL.back (r:=r) hs (g - r) g (by omega) h2 hge
 obtain ⟨gbs,cbs,rfl,-⟩:=h.r.nilOr (i:=4) rfl (by dsimp only; omega)
 refine wp_block (any_cut 20 [(0,Vp b),(1,Vi s),(2,Vi r)] (fun w'=>Hold base w0 w' (ptR b { p with bl:=bl.set s (lev q' s) } ⟨vst,vpl,Vs gbl (bl.set s (lev g s)).length cbl,Vs gbs p.bs.length cbs,Vs gcs p.cs.length ccs,vml⟩ ++ rest)) mixed hS ?_ (fun a w4 hS h=>?_))
 ·have hy : RowKit.Below w3.drew.heap.size w3.drew w3.drew:=RowKit.Below.refl _ _
  have hD:=h.drew
  have c1:=hD.r.cN (i:=3) rfl (j:=s) (by dsimp only; omega)
  dsimp only at c1
  rw [hg] at c1
  have c3:=hD.r.cK3 (i:=4) rfl (j:=lev g s) (by dsimp only; omega)
  dsimp only at c3
  rw [k3] at c3
  refine yT 0 tab_ok rfl (by kernel_rfl) hy rfl (rfl) ?_
  refine yT 1 tab_ok rfl (by kernel_rfl) hy rfl (rfl) ?_
  refine yT 2 tab_ok rfl (by kernel_rfl) hy rfl (rfl) ?_
  refine yL 3 tab_ok rfl (by kernel_rfl) hy rfl rfl (hD.r.xcell (i:=0) rfl (j:=2) rfl) ?_
  refine yT 4 tab_ok rfl (by kernel_rfl) hy rfl (rfl) ?_
  refine yT 5 tab_ok rfl (by kernel_rfl) hy rfl (rfl) ?_
  refine yT 6 tab_ok rfl (by kernel_rfl) hy rfl (rfl) ?_
  refine yT 7 tab_ok rfl (by kernel_rfl) hy rfl (rfl) ?_
  refine yL 8 tab_ok rfl (by kernel_rfl) hy rfl rfl (hD.r.xcell (i:=0) rfl (j:=3) rfl) ?_
  refine yT 9 tab_ok rfl (by kernel_rfl) hy rfl (rfl) ?_
  refine yT 10 tab_ok rfl (by kernel_rfl) hy rfl (rfl) ?_
  refine yT 11 tab_ok rfl (by kernel_rfl) hy rfl (rfl) ?_
  refine yL 12 tab_ok rfl (by kernel_rfl) hy rfl rfl (hD.r.xcell (i:=0) rfl (j:=2) rfl) ?_
  refine yT 13 tab_ok rfl (by kernel_rfl) hy rfl (rfl) ?_
  refine yT 14 tab_ok rfl (by kernel_rfl) hy rfl (Exists.intro _ (And.intro (rfl) (And.intro ((by dsimp only; omega)) rfl))) ?_
  refine yL 15 tab_ok rfl (by kernel_rfl) hy rfl rfl (c1) ?_
  refine yT 16 tab_ok rfl (by kernel_rfl) hy rfl (Exists.intro _ (And.intro (rfl) (And.intro ((by dsimp only; omega)) rfl))) ?_
  refine yT 17 tab_ok rfl (by kernel_rfl) hy rfl (rfl) ?_
  refine yL 18 tab_ok rfl (by kernel_rfl) hy rfl rfl (c3) ?_
  refine yT 19 tab_ok rfl (by kernel_rfl) hy rfl (Exists.intro _ (And.intro (rfl) (And.intro ((by dsimp only; omega)) rfl))) ?_
  refine y_one 20 (by kernel_rfl) (y_op0 20 tab_ok rfl rfl rfl ?_)
  refine And.intro rfl (And.intro rfl (And.intro ⟨_,c1⟩ (And.intro (hD.r.free (i:=3) rfl _) (And.intro (.inl (by kernel_rfl)) ?_))))
  have h5:=hD.storeN (i:=3) rfl s (lev q' s)
  dsimp only at h5
  rw [List.set_set] at h5
  exact y_end (by kernel_rfl) ⟨rfl,rfl,rfl,trivial⟩ h5
 exact ⟨q',_,k2,⟨q',_,k1,by omega,rfl,rfl,h⟩,hS⟩
end
section
variable {base : Nat} {w0 w w' : World} {l l' : List Ow}
theorem Rows.perm (h : Rows base w l) (hp : l.Perm l') : Rows base w l':=by
 have h1 : ∀ o ∈ l,o.ok base w:=fun o ho=>by
  obtain ⟨i,hi⟩:=List.getElem?_of_mem ho
  exact h.1 i o hi
 have h2 : l.Pairwise fun a b=>apart a.v b.v:=by
  rw [List.pairwise_iff_getElem]
  intro i j hi hj hij
  exact h.2 i j _ _ (by omega) (List.getElem?_eq_getElem hi) (List.getElem?_eq_getElem hj)
 have h3 : l'.Pairwise fun a b=>apart a.v b.v:=(hp.pairwise_iff (fun {_ _} k=>k.symm)).1 h2
 refine ⟨fun i o hi=>h1 o (hp.mem_iff.2 (List.mem_of_getElem? hi)),fun i j a b hij ha hb=>?_⟩
 rw [List.pairwise_iff_getElem] at h3
 obtain ⟨hi,rfl⟩:=List.getElem?_eq_some_iff.1 ha
 obtain ⟨hj,rfl⟩:=List.getElem?_eq_some_iff.1 hb
 rcases Nat.lt_or_gt_of_ne hij with h4 | h4
 ·exact h3 i j hi hj h4
 ·exact (h3 j i hj hi h4).symm
theorem Hold.perm (h : Hold base w0 w l) (hp : l.Perm l') : Hold base w0 w l':=⟨h.r.perm hp,h.b,h.s⟩
theorem Hold.nil (h : Hold base w0 w l) (e s : Nat) : Hold base w0 w (⟨.slice none 0 0,e,s,0,[]⟩ :: l):=
 h.new ⟨rfl,rfl,rfl,Nat.le_refl _,fun _ _ _=>rfl⟩ (World.ownsRow_nil _ _ _ _) (.inl rfl)
theorem Hold.makeN (h : Hold base w0 w l) {n : Nat} (hn : n ≤ 9223372036854775807) : Hold base w0 (w.alloc (.cells (madeCells #[Vi 0] n) 3)) (oN (Vs w.heap.size n n) (List.replicate n 0) :: l):=by
 have h1:=h.lit (e:=3) (s:=1) (n:=n) (madeCells #[Vi 0] n) (by simp [madeCells]) hn
 rw [toList_madeCells_one] at h1
 simpa [oN,nats] using h1
theorem Hold.makeS (h : Hold base w0 w l) {n : Nat} (hn : n ≤ 9223372036854775807) : Hold base w0 (w.alloc (.cells (madeCells #[.int .i32 0] n) 21)) (oS (Vs w.heap.size n n) (List.replicate n 0) :: l):=by
 have h1:=h.lit (e:=21) (s:=1) (n:=n) (madeCells #[.int .i32 0] n) (by simp [madeCells]) hn
 rw [toList_madeCells_one] at h1
 simpa [oS,n32s] using h1
end
section
variable {base : Nat} {w0 w : World} {b : Nat} {p : Pt} {N s : Nat} {rest : List Ow}
theorem apart_any {L R r t : Nat} {dl : Nat → Nat → Nat} {en : Nat → Bool} {lev : Nat → Nat → Nat} {bl : List Nat} (hL : Lev L dl en p N lev R) (hbl : Backs lev N R r bl) (hs : s < N) (ht : t < N) (hr : r ≤ R) (hN : N ≤ 100000000) (hbs : p.bs.length ≤ 100000000)
  (h : HoldP base w0 w b { p with bl:=bl } rest) :
  Calls Tryz.prog 32 #[Vp b,Vi s,Vi t,Vi r] w fun e w'=>e = .returned (.bool (decide (lev r s ≠ lev r t))) ∧ ∃ bl',Backs lev N R r bl' ∧ HoldP base w0 w' b { p with bl:=bl' } rest:=by
 refine Sym.enter (args:=[Vp b,Vi s,Vi t,Vi r]) Tryz.func32 rfl rfl rfl (fun a0 hS0=>?_)
 refine wp_seq (seq_cut [(0,Vp b),(1,Vi s),(2,Vi t),(3,Vi r)] (· = w) tab_ok hS0 ?_ (fun a w1 hS hw=>?_))
 ·repeat first|refine zP rfl ?_|refine zK rfl ?_
  exact o_nil ⟨⟨rfl,rfl,rfl,rfl,trivial⟩,rfl⟩
 subst hw
 refine wp_seq (seq_cut [(8,.bool (decide (lev r s ≠ lev r t)))] (fun w'=>∃ bl',Backs lev N R r bl' ∧ HoldP base w0 w' b { p with bl:=bl' } rest) tab_ok hS ?_ (fun a w2 hS hw=>?_))
 ·repeat first|refine zP rfl ?_|refine zK rfl ?_
  refine zF rfl (en_goBack) (goBack_any hL hbl hs hr hN hbs h) ?_
  rintro e w2 ⟨rfl,h2⟩
  refine ⟨_,rfl,?_⟩
  have hb2:=hbl.set (s:=s) (Nat.le_refl r) hr
  repeat first|refine zP rfl ?_|refine zK rfl ?_
  refine zF rfl (en_goBack) (goBack_any hL hb2 ht hr hN hbs h2) ?_
  rintro e w3 ⟨rfl,h3⟩
  refine ⟨_,rfl,?_⟩
  refine zC rfl (ne_nat _ _) ?_
  repeat first|refine zP rfl ?_|refine zK rfl ?_
  exact o_nil ⟨⟨rfl,trivial⟩,⟨_,hb2.set (s:=t) (Nat.le_refl r) hr,h3⟩⟩
 refine wp_ret ?_
 repeat (first | refine then_ret ?_ | refine block_ret ?_)
 exact ret1 hS rfl rfl ⟨rfl,hw⟩
def Pt.whole (n : Nat) : Pt:=⟨List.range n,List.range n,List.replicate n 0,[⟨0,n,0,0⟩],[1],[]⟩
theorem gt_range {n i : Nat} (h : i < n) : gt (List.range n) i = i:=by simp [gt,List.getD_eq_getElem?_getD,h]
theorem gt_rep {n i x : Nat} (h : i < n) : gt (List.replicate n x) i = x:=by simp [gt,List.getD_eq_getElem?_getD,h]
theorem whole_ok {n : Nat} (h : 0 < n) : PI (Pt.whole n) n []:=by
 have hb : ∀ c,c < (Pt.whole n).bs.length → c = 0:=fun c hc=>by
  have : c < 1:=hc
  omega
 refine ⟨by simp [Pt.whole],by simp [Pt.whole],by simp [Pt.whole],fun i hi=>?_,fun i hi=>?_,fun i hi=>?_,fun i hi=>?_,fun c hc=>?_,fun c hc i h1 h2=>?_,fun c=>?_,by simp⟩
 ·show gt (List.range n) i < n ∧ gt (List.range n) (gt (List.range n) i) = i
  rw [gt_range hi,gt_range hi]; exact ⟨hi,rfl⟩
 ·show gt (List.range n) i < n ∧ gt (List.range n) (gt (List.range n) i) = i
  rw [gt_range hi,gt_range hi]; exact ⟨hi,rfl⟩
 ·show gt (List.replicate n 0) i < 1
  rw [gt_rep hi]; omega
 ·show (gb [⟨0,n,0,0⟩] (gt (List.replicate n 0) i)).first ≤ gt (List.range n) i ∧ gt (List.range n) i < (gb [⟨0,n,0,0⟩] (gt (List.replicate n 0) i)).first + (gb [⟨0,n,0,0⟩] (gt (List.replicate n 0) i)).size
  rw [gt_rep hi,gt_range hi]
  show 0 ≤ i ∧ i < 0 + n
  omega
 ·obtain rfl:=hb c hc
  show 0 < n ∧ 0 ≤ n ∧ 0 + n ≤ n
  omega
 ·obtain rfl:=hb c hc
  have h2 : i < 0 + n:=h2
  show gt (List.replicate n 0) (gt (List.range n) i) = 0
  rw [gt_range (by omega),gt_rep (by omega)]
 ·constructor
  ·intro h; cases h
  ·rintro ⟨hc,h1⟩
   obtain rfl:=hb c hc
   exact (Nat.lt_irrefl 0 h1).elim
variable {n i : Nat}
theorem whole_r5 (h : HoldP base w0 w b p rest) (hl : p.st.length ≤ 100000000) (hi : i ≤ 100000000) {Q : Exit → Act → World → Prop} {a : Act} {ops : Array Oper} {id : Nat} (hops : Sym.regionOf Tryz.f59.body 5 = some (id,ops))
  (hS : St Tryz.f59.ntmps a [(3,Vp b),(4,Vi i),(13,Vi n),(14,Vi i)])
  (hq : ∀ a' w',St Tryz.f59.ntmps a' [(3,Vp b),(4,Vi i),(13,Vi n),(14,Vi i)] → HoldP base w0 w' b { p with st:=p.st ++ [i] } rest → Q .normal a' w') : (Code.region id ops false).wp Tryz.prog Q a w:=by
 cases hops
 obtain ⟨⟨vst,vpl,vbl,vbs,vcs,vml⟩,h⟩:=h
 refine seq_cut [(3,Vp b),(4,Vi i),(13,Vi n),(14,Vi i)] (fun w'=>HoldP base w0 w' b { p with st:=p.st ++ [i] } rest) tab_ok hS ?_ hq
 obtain ⟨g,c,rfl,hc⟩:=h.r.any (i:=1) rfl
 repeat first|refine zP rfl ?_|refine zK rfl ?_
 refine zL rfl (h.r.xcell (i:=0) rfl (j:=0) rfl) ?_
 repeat first|refine zP rfl ?_|refine zK rfl ?_
 refine zN rfl (i32_in i (by omega)) ?_
 refine o_step rfl rfl rfl ?_
 refine Exists.intro [(0,.int .i32 (i : Int))] (Exists.intro #[.int .i32 (i : Int)] (And.intro (And.intro rfl rfl) (And.intro (by decide) (And.intro (fillI _ _ _) ?_))))
 have h1:=h.alloc (.cells #[.int .i32 (i : Int)] 21)
 have ask : AppAsk (w.alloc (.cells #[.int .i32 (i : Int)] 21)) ⟨21,.int .i32,1,4,.int .i32 0⟩ (.slice g p.st.length c) p.st.length (n32s p.st) (Vs w.heap.size 1 1) 1 [.int .i32 (i : Int)] base:=
  ⟨h1.r.1 1 _ rfl,.inr ⟨_,0,_,rfl,cell_alloc_new rfl,trivial⟩,rfl,(by simp [Value.oneCell']),(by omega),(by show (p.st.length + 1) * 4 ≤ _; omega),h1.s⟩
 refine o_step rfl rfl rfl ?_
 refine Exists.intro _ (Exists.intro _ (Exists.intro _ (Exists.intro _ (Exists.intro _ (And.intro (ask) (And.intro (fun _ h=>h.symm) (And.intro (by decide) ?_)))))))
 rintro v' w2 hown hgr - hat
 have h2:=h1.appS (i:=1) rfl hown hgr hat
 obtain ⟨g2,n2,c2,hv⟩:=own_form hown
 subst hv
 repeat first|refine zP rfl ?_|refine zK rfl ?_
 refine zS rfl rfl (h2.r.xcell (i:=0) rfl (j:=0) rfl) (h2.r.free (i:=0) rfl 0) ?_
 exact o_nil ⟨⟨rfl,rfl,rfl,rfl,trivial⟩,⟨.slice g2 n2 c2,vpl,vbl,vbs,vcs,vml⟩,h2.xstore (i:=0) rfl 0 (.slice g2 n2 c2)⟩
theorem whole_r6 (h : HoldP base w0 w b p rest) (hl : p.pl.length ≤ 100000000) {Q : Exit → Act → World → Prop} {a : Act} {ops : Array Oper} {id : Nat} (hops : Sym.regionOf Tryz.f59.body 6 = some (id,ops))
  (hS : St Tryz.f59.ntmps a [(3,Vp b),(4,Vi i),(13,Vi n),(14,Vi i)])
  (hq : ∀ a' w',St Tryz.f59.ntmps a' [(3,Vp b),(13,Vi n),(14,Vi i)] → HoldP base w0 w' b { p with pl:=p.pl ++ [i] } rest → Q .normal a' w') : (Code.region id ops false).wp Tryz.prog Q a w:=by
 cases hops
 obtain ⟨⟨vst,vpl,vbl,vbs,vcs,vml⟩,h⟩:=h
 refine seq_cut [(3,Vp b),(13,Vi n),(14,Vi i)] (fun w'=>HoldP base w0 w' b { p with pl:=p.pl ++ [i] } rest) tab_ok hS ?_ hq
 obtain ⟨g,c,rfl,hc⟩:=h.r.any (i:=2) rfl
 repeat first|refine zP rfl ?_|refine zK rfl ?_
 refine zL rfl (h.r.xcell (i:=0) rfl (j:=1) rfl) ?_
 repeat first|refine zP rfl ?_|refine zK rfl ?_
 refine o_step rfl rfl rfl ?_
 refine Exists.intro [(0,Vi ((i : Int)))] (Exists.intro #[Vi ((i : Int))] (And.intro (And.intro rfl rfl) (And.intro (by decide) (And.intro (fillI _ _ _) ?_))))
 have h1:=h.alloc (.cells #[Vi i] 3)
 have ask : AppAsk (w.alloc (.cells #[Vi i] 3)) ⟨3,.int .i64,1,8,Vi 0⟩ (.slice g p.pl.length c) p.pl.length (nats p.pl) (Vs w.heap.size 1 1) 1 [Vi i] base:=
  ⟨h1.r.1 2 _ rfl,.inr ⟨_,0,_,rfl,cell_alloc_new rfl,trivial⟩,rfl,(by simp [Value.oneCell']),(by omega),(by show (p.pl.length + 1) * 8 ≤ _; omega),h1.s⟩
 refine o_step rfl rfl rfl ?_
 refine Exists.intro _ (Exists.intro _ (Exists.intro _ (Exists.intro _ (Exists.intro _ (And.intro (ask) (And.intro (fun _ h=>h.symm) (And.intro (by decide) ?_)))))))
 rintro v' w2 hown hgr - hat
 have h2:=h1.appN (i:=2) rfl hown hgr hat
 obtain ⟨g2,n2,c2,hv⟩:=own_form hown
 subst hv
 repeat first|refine zP rfl ?_|refine zK rfl ?_
 refine zS rfl rfl (h2.r.xcell (i:=0) rfl (j:=1) rfl) (h2.r.free (i:=0) rfl 1) ?_
 exact o_nil ⟨⟨rfl,rfl,rfl,trivial⟩,⟨vst,.slice g2 n2 c2,vbl,vbs,vcs,vml⟩,h2.xstore (i:=0) rfl 1 (.slice g2 n2 c2)⟩
theorem whole_any (h : Hold base w0 w rest) (hn : n ≤ 100000000) :
  Calls Tryz.prog 59 #[Vi n] w fun e w'=>∃ b,e = .returned (Vp b) ∧ HoldP base w0 w' b (Pt.whole n) rest:=by
 refine Sym.enter (args:=[Vi n]) Tryz.func59 rfl rfl rfl (fun a0 hS0=>?_)
 refine wp_seq (seq_cut [(0,Vi n)] (· = w) tab_ok hS0 ?_ (fun a w1 hS hw=>?_))
 ·repeat first|refine zP rfl ?_|refine zK rfl ?_
  exact o_nil ⟨⟨rfl,trivial⟩,rfl⟩
 subst hw
 refine wp_seq (seq_cutx (α:=Nat) (fun b=>[(0,Vi n),(3,Vp b)]) (fun b w'=>HoldP base w0 w' b ⟨[],[],List.replicate n 0,[⟨0,n,0,0⟩],[1],[]⟩ rest) tab_ok hS ?_ (fun b a w2 hS h=>?_))
 ·repeat first|refine zP rfl ?_|refine zK rfl ?_
  refine zM (n) rfl rfl rfl rfl rfl ((by show 8 * _ ≤ _; omega)) ((by omega)) ?_
  repeat first|refine zP rfl ?_|refine zK rfl ?_
  have h1:=h.makeN (n:=n) (by omega)
  refine o_step rfl rfl rfl ?_
  refine Exists.intro [(0,.agg #[Vi 0,Vi n,Vi 0,Vi 0])] (Exists.intro #[Vi 0,Vi n,Vi 0,Vi 0] (And.intro (And.intro rfl rfl) (And.intro (by decide) (And.intro (fill4 _ _ _ _ _ rfl) ?_))))
  have h2:=h1.lit (e:=91) (s:=4) (n:=1) #[Vi 0,Vi n,Vi 0,Vi 0] rfl (by decide)
  refine o_step rfl rfl rfl ?_
  refine Exists.intro [(0,Vi (1))] (Exists.intro #[Vi (1)] (And.intro (And.intro rfl rfl) (And.intro (by decide) (And.intro (fillI _ _ _) ?_))))
  have h3:=h2.lit (e:=3) (s:=1) (n:=1) #[Vi 1] rfl (by decide)
  repeat first|refine zP rfl ?_|refine zK rfl ?_
  refine zB rfl ?_
  repeat first|refine zP rfl ?_|refine zK rfl ?_
  have h4:=((((h3.nil 3 1).nil 3 1).nil 21 1).box (T:=64) (k:=6) #[.slice none 0 0,.slice none 0 0,(Vs w1.heap.size n n),(Vs (w1.alloc (.cells (madeCells #[Vi 0] n) 3)).heap.size 1 1),(Vs ((w1.alloc (.cells (madeCells #[Vi 0] n) 3)).alloc (.cells #[Vi 0,Vi n,Vi 0,Vi 0] 91)).heap.size 1 1),.slice none 0 0] rfl)
  refine o_nil ⟨_,⟨rfl,rfl,trivial⟩,⟨⟨.slice none 0 0,.slice none 0 0,(Vs w1.heap.size n n),(Vs (w1.alloc (.cells (madeCells #[Vi 0] n) 3)).heap.size 1 1),(Vs ((w1.alloc (.cells (madeCells #[Vi 0] n) 3)).alloc (.cells #[Vi 0,Vi n,Vi 0,Vi 0] 91)).heap.size 1 1),.slice none 0 0⟩,h4.perm ?_⟩⟩
  exact .cons _ (.cons _ (.cons _ ((List.reverse_perm [_,_,_,_]).symm.append_right rest)))
 refine wp_seq (wp_seq (seq_cut [(3,Vp b),(13,Vi n),(14,Vi (0 : Nat))] (· = w2) tab_ok hS ?_ (fun a w3 hS hw=>?_)))
 ·repeat first|refine zP rfl ?_|refine zK rfl ?_
  exact o_nil ⟨⟨rfl,rfl,rfl,trivial⟩,rfl⟩
 subst hw
 refine wp_block (loop0 hS (fun g E w'=>∃ i : Nat,i ≤ n ∧ g = n - i ∧ E = [(3,Vp b),(13,Vi n),(14,Vi i)] ∧ HoldP base w0 w' b ⟨List.range i,List.range i,List.replicate n 0,[⟨0,n,0,0⟩],[1],[]⟩ rest) n ⟨0,by omega,by omega,rfl,h⟩ ?_)
 clear h hS
 rintro g E w4 a ⟨i,hi,rfl,rfl,h⟩ hS
 refine wp_seq (seq_cut [(3,Vp b),(13,Vi n),(14,Vi i),(15,.bool (decide (i < n)))] (· = w4) tab_ok hS ?_ (fun a w5 hS hw=>?_))
 ·repeat first|refine zP rfl ?_|refine zK rfl ?_
  refine zC rfl (lt_nat _ _) ?_
  repeat first|refine zP rfl ?_|refine zK rfl ?_
  exact o_nil ⟨⟨rfl,rfl,rfl,rfl,trivial⟩,rfl⟩
 subst hw
 refine wp_seq (cond hS rfl (fun hT=>wp_skip ?_) (fun hF=>?_))
 rotate_left
 ·have hin : i = n:=by have:=of_decide_eq_false hF; omega
  subst hin
  refine wp_exit ?_
  repeat (first | refine then_exit ?_ | refine block_exit ?_ | refine block_other rfl ?_)
  refine wp_seq (seq_cut [(2,Vp b)] (· = w5) tab_ok hS ?_ (fun a w6 hS hw=>?_))
  ·repeat first|refine zP rfl ?_|refine zK rfl ?_
   exact o_nil ⟨⟨rfl,trivial⟩,rfl⟩
  subst hw
  refine wp_ret ?_
  repeat (first | refine then_ret ?_ | refine block_ret ?_)
  exact ret1 hS rfl rfl ⟨b,rfl,h⟩
 have hin : i < n:=of_decide_eq_true hT
 refine wp_seq (wp_block (wp_seq (seq_cut [(3,Vp b),(4,Vi i),(13,Vi n),(14,Vi i)] (· = w5) tab_ok hS ?_ (fun a w6 hS hw=>?_))))
 ·repeat first|refine zP rfl ?_|refine zK rfl ?_
  exact o_nil ⟨⟨rfl,rfl,rfl,rfl,trivial⟩,rfl⟩
 subst hw
 refine wp_seq (whole_r5 h (by simp; omega) (by omega) (by rfl) hS (fun a w7 hS h=>?_))
 refine whole_r6 h (by simp; omega) (by rfl) hS (fun a w8 hS h=>?_)
 refine block_normal ?_
 refine seq_cut [(3,Vp b),(13,Vi n),(14,Vi (i + 1 : Nat))] (· = w8) tab_ok hS ?_ (fun a w9 hS hw=>?_)
 ·repeat first|refine zP rfl ?_|refine zK rfl ?_
  refine zN rfl (i64_add _ 1 (by omega)) ?_
  repeat first|refine zP rfl ?_|refine zK rfl ?_
  exact o_nil ⟨⟨rfl,rfl,rfl,trivial⟩,rfl⟩
 subst hw
 refine ⟨n - (i + 1),_,by omega,⟨i + 1,by omega,rfl,rfl,?_⟩,hS⟩
 rw [List.range_succ]
 exact h
end
end Go.Proofs.YthcoppfiahnpoaaGreat
namespace Go.Proofs.YthcoppfiahnpoaaGreat
open Go Sym
theorem en_awellFormed : enters Tryz.prog 53 = true:=by kernel_rfl
theorem en_aValid : enters Tryz.prog 26 = true:=by kernel_rfl
theorem en_afit : enters Tryz.prog 28 = true:=by kernel_rfl
theorem en_afollow : enters Tryz.prog 42 = true:=by kernel_rfl
theorem en_aends : enters Tryz.prog 43 = true:=by kernel_rfl
theorem box_new {w wc : World} {L s : Int} {vn ve : Value} (hw : wc = w.alloc (.cells #[Vi L,Vi s,vn,ve] 25)) : RowKit.Below w.heap.size w wc ∧ Box wc w.heap.size L s vn ve:=by
 rw [hw]
 exact ⟨below_alloc _ _,cell_alloc_new rfl,cell_alloc_new rfl,cell_alloc_new rfl,cell_alloc_new rfl⟩
theorem wellFormed_any (L s : Int) (vn ve : Value) (next : List (List Int)) (fin : List Bool) (w : World) (hm : Ma w L s next fin vn ve) :
  Calls Tryz.prog 53 #[.agg #[Vi L,Vi s,vn,ve]] w fun e w'=>e = .returned (.bool (shapedM L s next fin)) ∧ RowKit.Below w.heap.size w w':=by
 refine Sym.enter (args:=[.agg #[Vi L,Vi s,vn,ve]]) Tryz.func53 rfl rfl rfl (fun a0 hS0=>?_)
 obtain ⟨B,hBB⟩ : ∃ B,B = w.heap.size:=⟨_,rfl⟩
 refine wp_seq (seq_cut [(1,Vp B)] (· = w.alloc (.cells #[Vi L,Vi s,vn,ve] 25)) tab_ok hS0 ?_ (fun a wc hS hw=>?_))
 ·subst hBB
  refine zB rfl ?_
  repeat first|refine zP rfl ?_|refine zK rfl ?_
  exact o_nil ⟨⟨rfl,trivial⟩,rfl⟩
 obtain ⟨hB,hx⟩:=box_new hw
 rw [← hBB] at hx
 clear hw
 replace hm:=hm.keep hB
 obtain ⟨hn,he,hL,hs,-,-⟩:=id hm
 obtain ⟨an,bn,on,cn,hvn,hna,hn1,hn2,hn3⟩:=hn
 obtain ⟨ae,be,oe,ce,hve,hea,he1,he2,he3⟩:=he
 refine wp_seq (seq_cut [(1,Vp B),(3,Vi next.length)] (· = wc) tab_ok hS ?_ (fun a w' hS hw=>?_))
 ·subst hvn
  repeat first|refine zP rfl ?_|refine zK rfl ?_
  refine zL rfl (hx.c2) ?_
  repeat first|refine zP rfl ?_|refine zK rfl ?_
  exact o_nil ⟨⟨rfl,rfl,trivial⟩,rfl⟩
 subst hw
 have bad : ∀ {b : Bool},b = shapedM L s next fin → Ending.returned (.bool b) = Ending.returned (.bool (shapedM L s next fin)):=fun h=>by rw [h]
 refine wp_seq (wp_seq (seq_cut [(1,Vp B),(3,Vi next.length),(20,.bool (decide (L < 0) || decide ((fin.length : Int) ≠ next.length)))] (· = w') tab_ok hS ?_ (fun a w2 hS hw=>?_)))
 ·subst hve
  repeat first|refine zP rfl ?_|refine zK rfl ?_
  refine zL rfl (hx.c0) ?_
  cases h1 : decide (L < 0)
  case true=>
   refine zC rfl (h1) ?_
   repeat first|refine zP rfl ?_|refine zK rfl ?_
   exact o_nil ⟨⟨rfl,rfl,rfl,trivial⟩,rfl⟩
  refine zC rfl (h1) ?_
  repeat first|refine zP rfl ?_|refine zK rfl ?_
  refine zL rfl (hx.c3) ?_
  repeat first|refine zP rfl ?_|refine zK rfl ?_
  refine zC rfl (rfl) ?_
  repeat first|refine zP rfl ?_|refine zK rfl ?_
  exact o_nil ⟨⟨rfl,rfl,rfl,trivial⟩,rfl⟩
 subst hw
 refine cond hS rfl (fun hT=>?_) (fun hF=>?_)
 ·refine wp_seq (seq_cut [(2,.bool false)] (· = w2) tab_ok hS ?_ (fun a w3 hS hw=>?_))
  ·repeat first|refine zP rfl ?_|refine zK rfl ?_
   exact o_nil ⟨⟨rfl,trivial⟩,rfl⟩
  subst hw
  refine wp_ret ?_
  repeat (first | refine then_ret ?_ | refine block_ret ?_)
  refine ret1 hS rfl rfl ⟨bad ?_,hB⟩
  unfold shapedM headBad
  rw [← Bool.or_assoc,hT]; rfl
 refine wp_skip ?_
 refine wp_seq (wp_seq (seq_cut [(1,Vp B),(3,Vi next.length),(37,.bool (decide (s < -1) || (decide ((next.length : Int) ≤ s) || (decide (s = -1) != decide ((next.length : Int) = 0)))))] (· = w2) tab_ok hS ?_ (fun a w3 hS hw=>?_)))
 ·repeat first|refine zP rfl ?_|refine zK rfl ?_
  refine zL rfl (hx.c1) ?_
  cases h1 : decide (s < -1)
  case true=>
   refine zC rfl (h1) ?_
   repeat first|refine zP rfl ?_|refine zK rfl ?_
   exact o_nil ⟨⟨rfl,rfl,rfl,trivial⟩,rfl⟩
  refine zC rfl (h1) ?_
  repeat first|refine zP rfl ?_|refine zK rfl ?_
  refine zL rfl (hx.c1) ?_
  repeat first|refine zP rfl ?_|refine zK rfl ?_
  cases h2 : decide ((next.length : Int) ≤ s)
  case true=>
   refine zC rfl (h2) ?_
   repeat first|refine zP rfl ?_|refine zK rfl ?_
   exact o_nil ⟨⟨rfl,rfl,rfl,trivial⟩,rfl⟩
  refine zC rfl (h2) ?_
  repeat first|refine zP rfl ?_|refine zK rfl ?_
  refine zL rfl (hx.c1) ?_
  refine zC rfl (rfl) ?_
  repeat first|refine zP rfl ?_|refine zK rfl ?_
  refine zC rfl (rfl) ?_
  refine zC rfl (rfl) ?_
  repeat first|refine zP rfl ?_|refine zK rfl ?_
  exact o_nil ⟨⟨rfl,rfl,rfl,trivial⟩,rfl⟩
 subst hw
 refine cond hS rfl (fun hT2=>?_) (fun hF2=>?_)
 ·refine wp_seq (seq_cut [(2,.bool false)] (· = w3) tab_ok hS ?_ (fun a w4 hS hw=>?_))
  ·repeat first|refine zP rfl ?_|refine zK rfl ?_
   exact o_nil ⟨⟨rfl,trivial⟩,rfl⟩
  subst hw
  refine wp_ret ?_
  repeat (first | refine then_ret ?_ | refine block_ret ?_)
  refine ret1 hS rfl rfl ⟨bad ?_,hB⟩
  refine (Bool.eq_false_iff.2 fun h=>?_).symm
  have hsh:=shape_of h
  have h1:=hsh.s1
  have h2:=hsh.s2
  have h3:=hsh.start
  simp only [Bool.or_eq_true,decide_eq_true_eq,bne_iff_ne,ne_eq,decide_eq_decide] at hT2
  omega
 have hhead : headBad L s next.length fin.length = false:=by
  unfold headBad
  rw [← Bool.or_assoc,hF,Bool.false_or]
  simp only [Bool.or_eq_false_iff,decide_eq_false_iff_not,bne_eq_false_iff_eq,decide_eq_decide] at hF2
  simp only [Bool.or_eq_false_iff,Bool.and_eq_false_iff,decide_eq_false_iff_not,ne_eq,Decidable.not_not]
  omega
 refine wp_skip ?_
 refine wp_seq (wp_seq (seq_cut [(1,Vp B),(3,Vi next.length),(39,vn),(40,Vi next.length),(41,Vi (0 : Nat))] (· = w3) tab_ok hS ?_ (fun a w4 hS hw=>?_)))
 ·subst hvn
  repeat first|refine zP rfl ?_|refine zK rfl ?_
  refine zL rfl (hx.c2) ?_
  repeat first|refine zP rfl ?_|refine zK rfl ?_
  exact o_nil ⟨⟨rfl,rfl,rfl,rfl,rfl,trivial⟩,rfl⟩
 subst hw
 refine wp_block (loop0 hS (fun g E wr=>∃ k : Nat,k ≤ next.length ∧ g = next.length - k ∧ E = [(1,Vp B),(3,Vi next.length),(39,vn),(40,Vi next.length),(41,Vi k)] ∧ wr = w4 ∧ (next.take k).all (rowOk next.length L) = true) next.length ⟨0,by omega,by omega,rfl,rfl,rfl⟩ ?_)
 clear hS
 rintro g E w5 a ⟨k,hk,rfl,rfl,rfl,hall⟩ hS
 refine wp_seq (seq_cut [(1,Vp B),(3,Vi next.length),(39,vn),(40,Vi next.length),(41,Vi k),(42,.bool (decide (k < next.length)))] (· = w5) tab_ok hS ?_ (fun a w6 hS hw=>?_))
 ·repeat first|refine zP rfl ?_|refine zK rfl ?_
  refine zC rfl (lt_nat _ _) ?_
  repeat first|refine zP rfl ?_|refine zK rfl ?_
  exact o_nil ⟨⟨rfl,rfl,rfl,rfl,rfl,rfl,trivial⟩,rfl⟩
 subst hw
 refine wp_seq (cond hS rfl (fun hT=>wp_skip ?_) (fun hF=>?_))
 rotate_left
 ·have hkk : k = next.length:=by have:=of_decide_eq_false hF; omega
  subst hkk
  rw [List.take_length] at hall
  refine wp_exit ?_
  repeat (first | refine then_exit ?_ | refine block_exit ?_ | refine block_other rfl ?_)
  refine wp_seq (seq_cut [(2,.bool true)] (· = w6) tab_ok hS ?_ (fun a w7 hS hw=>?_))
  ·repeat first|refine zP rfl ?_|refine zK rfl ?_
   exact o_nil ⟨⟨rfl,trivial⟩,rfl⟩
  subst hw
  refine wp_ret ?_
  repeat (first | refine then_ret ?_ | refine block_ret ?_)
  refine ret1 hS rfl rfl ⟨bad ?_,hB⟩
  unfold shapedM
  rw [hhead,hall]; rfl
 have hkk : k < next.length:=of_decide_eq_true hT
 obtain ⟨bn',on',cn',hvn',ar,cr,hrow,hcol⟩:=hm.cell hkk
 have bad2 : rowOk next.length L next[k] = false → shapedM L s next fin = false:=fun h=>by
  unfold shapedM
  rw [all_of_take hkk h]; simp
 refine wp_seq (wp_block (wp_seq (seq_cut [(1,Vp B),(3,Vi next.length),(39,vn),(40,Vi next.length),(41,Vi k),(5,.slice ar next[k].length cr)] (· = w6) tab_ok hS ?_ (fun a w7 hS hw=>?_))))
 ·subst hvn'
  repeat first|refine zP rfl ?_|refine zK rfl ?_
  refine zI rfl (rfl) (hkk) ?_
  refine zL rfl (hrow) ?_
  repeat first|refine zP rfl ?_|refine zK rfl ?_
  exact o_nil ⟨⟨rfl,rfl,rfl,rfl,rfl,rfl,trivial⟩,rfl⟩
 subst hw
 refine wp_seq (wp_seq (seq_cut [(1,Vp B),(3,Vi next.length),(39,vn),(40,Vi next.length),(41,Vi k),(5,.slice ar next[k].length cr),(49,.bool (decide ((next[k].length : Int) ≠ L)))] (· = w7) tab_ok hS ?_ (fun a w8 hS hw=>?_)))
 ·repeat first|refine zP rfl ?_|refine zK rfl ?_
  refine zL rfl (hx.c0) ?_
  refine zC rfl (rfl) ?_
  repeat first|refine zP rfl ?_|refine zK rfl ?_
  exact o_nil ⟨⟨rfl,rfl,rfl,rfl,rfl,rfl,rfl,trivial⟩,rfl⟩
 subst hw
 refine cond hS rfl (fun hT=>?_) (fun hF=>?_)
 ·refine wp_seq (seq_cut [(2,.bool false)] (· = w8) tab_ok hS ?_ (fun a w9 hS hw=>?_))
  ·repeat first|refine zP rfl ?_|refine zK rfl ?_
   exact o_nil ⟨⟨rfl,trivial⟩,rfl⟩
  subst hw
  refine wp_ret ?_
  repeat (first | refine then_ret ?_ | refine block_ret ?_)
  refine ret1 hS rfl rfl ⟨bad (bad2 ?_).symm,hB⟩
  have:=of_decide_eq_true hT
  unfold rowOk
  rw [decide_eq_false this]; rfl
 have hrl:=Decidable.not_not.1 (of_decide_eq_false hF)
 refine wp_skip ?_
 refine wp_seq (seq_cut [(1,Vp B),(3,Vi next.length),(39,vn),(40,Vi next.length),(41,Vi k),(50,.slice ar next[k].length cr),(51,Vi (next[k].length : Int)),(52,Vi (0 : Nat))] (· = w8) tab_ok hS ?_ (fun a w9 hS hw=>?_))
 ·repeat first|refine zP rfl ?_|refine zK rfl ?_
  exact o_nil ⟨⟨rfl,rfl,rfl,rfl,rfl,rfl,rfl,rfl,trivial⟩,rfl⟩
 subst hw
 refine wp_block (loop0 hS (fun g E wr=>∃ j : Nat,j ≤ next[k].length ∧ g = next[k].length - j ∧ E = [(1,Vp B),(3,Vi next.length),(39,vn),(40,Vi next.length),(41,Vi k),(50,.slice ar next[k].length cr),(51,Vi (next[k].length : Int)),(52,Vi j)] ∧ wr = w9 ∧ (next[k].take j).all (fun x=>decide (-1 ≤ x) && decide (x < next.length)) = true) next[k].length ⟨0,by omega,by omega,rfl,rfl,rfl⟩ ?_)
 clear hS
 rintro g E w10 a ⟨j,hj,rfl,rfl,rfl,hall2⟩ hS
 refine wp_seq (seq_cut [(1,Vp B),(3,Vi next.length),(39,vn),(40,Vi next.length),(41,Vi k),(50,.slice ar next[k].length cr),(51,Vi (next[k].length : Int)),(52,Vi j),(53,.bool (decide (j < next[k].length)))] (· = w10) tab_ok hS ?_ (fun a w11 hS hw=>?_))
 ·repeat first|refine zP rfl ?_|refine zK rfl ?_
  refine zC rfl (lt_nat _ _) ?_
  repeat first|refine zP rfl ?_|refine zK rfl ?_
  exact o_nil ⟨⟨rfl,rfl,rfl,rfl,rfl,rfl,rfl,rfl,rfl,trivial⟩,rfl⟩
 subst hw
 refine wp_seq (cond hS rfl (fun hT=>wp_skip ?_) (fun hF=>?_))
 rotate_left
 ·have hjj : j = next[k].length:=by have:=of_decide_eq_false hF; omega
  subst hjj
  rw [List.take_length] at hall2
  refine wp_exit ?_
  repeat (first | refine then_exit ?_ | refine block_exit ?_ | refine block_other rfl ?_)
  refine block_normal ?_
  refine seq_cut [(1,Vp B),(3,Vi next.length),(39,vn),(40,Vi next.length),(41,Vi (k + 1 : Nat))] (· = w11) tab_ok hS ?_ (fun a w12 hS hw=>?_)
  ·repeat first|refine zP rfl ?_|refine zK rfl ?_
   refine zN rfl (i64_add k 1 (by omega)) ?_
   repeat first|refine zP rfl ?_|refine zK rfl ?_
   exact o_nil ⟨⟨rfl,rfl,rfl,rfl,rfl,trivial⟩,rfl⟩
  subst hw
  refine ⟨next.length - (k + 1),_,by omega,⟨k + 1,by omega,rfl,rfl,rfl,?_⟩,hS⟩
  rw [all_take_succ next _ k hkk,hall]
  unfold rowOk
  rw [decide_eq_true hrl,hall2]; rfl
 have hjj : j < next[k].length:=of_decide_eq_true hT
 obtain ⟨br,orr,har,hcell⟩:=hcol j hjj
 refine wp_seq (wp_block (wp_seq (seq_cut [(1,Vp B),(3,Vi next.length),(39,vn),(40,Vi next.length),(41,Vi k),(50,.slice ar next[k].length cr),(51,Vi (next[k].length : Int)),(52,Vi j),(7,Vi next[k][j])] (· = w11) tab_ok hS ?_ (fun a w12 hS hw=>?_))))
 ·subst har
  repeat first|refine zP rfl ?_|refine zK rfl ?_
  refine zI rfl (rfl) (hjj) ?_
  refine zL rfl (hcell) ?_
  repeat first|refine zP rfl ?_|refine zK rfl ?_
  exact o_nil ⟨⟨rfl,rfl,rfl,rfl,rfl,rfl,rfl,rfl,rfl,trivial⟩,rfl⟩
 subst hw
 refine wp_seq (seq_cut [(1,Vp B),(3,Vi next.length),(39,vn),(40,Vi next.length),(41,Vi k),(50,.slice ar next[k].length cr),(51,Vi (next[k].length : Int)),(52,Vi j),(62,.bool (decide (next[k][j] < -1) || decide ((next.length : Int) ≤ next[k][j])))] (· = w12) tab_ok hS ?_ (fun a w13 hS hw=>?_))
 ·repeat first|refine zP rfl ?_|refine zK rfl ?_
  cases h1 : decide (next[k][j] < -1)
  case true=>
   refine zC rfl (h1) ?_
   repeat first|refine zP rfl ?_|refine zK rfl ?_
   exact o_nil ⟨⟨rfl,rfl,rfl,rfl,rfl,rfl,rfl,rfl,rfl,trivial⟩,rfl⟩
  refine zC rfl (h1) ?_
  repeat first|refine zP rfl ?_|refine zK rfl ?_
  refine zC rfl (rfl) ?_
  repeat first|refine zP rfl ?_|refine zK rfl ?_
  exact o_nil ⟨⟨rfl,rfl,rfl,rfl,rfl,rfl,rfl,rfl,rfl,trivial⟩,rfl⟩
 subst hw
 refine cond hS rfl (fun hT=>?_) (fun hF=>?_)
 ·refine wp_seq (seq_cut [(2,.bool false)] (· = w13) tab_ok hS ?_ (fun a w14 hS hw=>?_))
  ·repeat first|refine zP rfl ?_|refine zK rfl ?_
   exact o_nil ⟨⟨rfl,trivial⟩,rfl⟩
  subst hw
  refine wp_ret ?_
  repeat (first | refine then_ret ?_ | refine block_ret ?_)
  refine ret1 hS rfl rfl ⟨bad (bad2 ?_).symm,hB⟩
  simp only [Bool.or_eq_true,decide_eq_true_eq] at hT
  unfold rowOk
  rw [all_of_take hjj]
  ·simp
  ·simp only [Bool.and_eq_false_iff,decide_eq_false_iff_not]; omega
 refine wp_skip ?_
 refine block_normal ?_
 refine seq_cut [(1,Vp B),(3,Vi next.length),(39,vn),(40,Vi next.length),(41,Vi k),(50,.slice ar next[k].length cr),(51,Vi (next[k].length : Int)),(52,Vi (j + 1 : Nat))] (· = w13) tab_ok hS ?_ (fun a w14 hS hw=>?_)
 ·have : next[k].length ≤ 9223372036854775807:=by have:=hL.2; omega
  repeat first|refine zP rfl ?_|refine zK rfl ?_
  refine zN rfl (i64_add j 1 (by omega)) ?_
  repeat first|refine zP rfl ?_|refine zK rfl ?_
  exact o_nil ⟨⟨rfl,rfl,rfl,rfl,rfl,rfl,rfl,rfl,trivial⟩,rfl⟩
 subst hw
 refine ⟨next[k].length - (j + 1),_,by omega,⟨j + 1,by omega,rfl,rfl,rfl,?_⟩,hS⟩
 rw [all_take_succ _ _ j hjj,hall2]
 simp only [Bool.or_eq_false_iff,decide_eq_false_iff_not] at hF
 simp only [Bool.true_and,Bool.and_eq_true,decide_eq_true_eq]
 omega
theorem aValid_any (L s : Int) (vn ve : Value) (next : List (List Int)) (fin : List Bool) (w : World) (hm : Ma w L s next fin vn ve) :
  Calls Tryz.prog 26 #[.agg #[Vi L,Vi s,vn,ve]] w fun e w'=>e = .returned (Vi (validM L s next fin)) ∧ RowKit.Below w.heap.size w w':=by
 refine Sym.enter (args:=[.agg #[Vi L,Vi s,vn,ve]]) Tryz.func26 rfl rfl rfl (fun a0 hS0=>?_)
 obtain ⟨B,hBB⟩ : ∃ B,B = w.heap.size:=⟨_,rfl⟩
 refine wp_seq (seq_cut [(1,Vp B)] (· = w.alloc (.cells #[Vi L,Vi s,vn,ve] 25)) tab_ok hS0 ?_ (fun a wc hS hw=>?_))
 ·subst hBB
  refine zB rfl ?_
  repeat first|refine zP rfl ?_|refine zK rfl ?_
  exact o_nil ⟨⟨rfl,trivial⟩,rfl⟩
 obtain ⟨hB,hx⟩:=box_new hw
 rw [← hBB] at hx
 clear hw
 replace hm:=hm.keep hB
 obtain ⟨an,bn,on,cn,hvn,-⟩:=id hm.n
 refine wp_seq (wp_seq (seq_cut [(1,Vp B),(5,.bool (!shapedM L s next fin))] (fun w'=>RowKit.Below wc.heap.size wc w') tab_ok hS ?_ (fun a w2 hS hw=>?_)))
 ·refine zA ([Vi L,Vi s,vn,ve]) rfl rfl (⟨hx.c0,hx.c1,hx.c2,hx.c3,trivial⟩) ?_
  refine zF rfl (en_awellFormed) (wellFormed_any L s vn ve next fin wc hm) ?_
  rintro e w3 ⟨rfl,h3⟩
  refine ⟨_,rfl,?_⟩
  repeat first|refine zP rfl ?_|refine zK rfl ?_
  exact o_nil ⟨⟨rfl,rfl,trivial⟩,h3⟩
 replace hx:=hx.keep hw
 replace hB:=below_trans hB hw
 clear hw
 refine cond hS rfl (fun hT=>?_) (fun hF=>?_)
 ·refine wp_seq (seq_cut [(2,Vi 1)] (· = w2) tab_ok hS ?_ (fun a w3 hS hw=>?_))
  ·repeat first|refine zP rfl ?_|refine zK rfl ?_
   exact o_nil ⟨⟨rfl,trivial⟩,rfl⟩
  subst hw
  refine wp_ret ?_
  repeat (first | refine then_ret ?_ | refine block_ret ?_)
  exact ret1 hS rfl rfl ⟨by unfold validM; rw [hT],hB⟩
 refine wp_skip ?_
 refine wp_seq (wp_seq (seq_cut [(1,Vp B),(14,.bool (decide (300 < L) || decide (4000 < (next.length : Int))))] (· = w2) tab_ok hS ?_ (fun a w3 hS hw=>?_)))
 ·subst hvn
  repeat first|refine zP rfl ?_|refine zK rfl ?_
  refine zL rfl (hx.c0) ?_
  cases h1 : decide (300 < L)
  case true=>
   refine zC rfl (h1) ?_
   repeat first|refine zP rfl ?_|refine zK rfl ?_
   exact o_nil ⟨⟨rfl,rfl,trivial⟩,rfl⟩
  refine zC rfl (h1) ?_
  repeat first|refine zP rfl ?_|refine zK rfl ?_
  refine zL rfl (hx.c2) ?_
  repeat first|refine zP rfl ?_|refine zK rfl ?_
  refine zC rfl (rfl) ?_
  repeat first|refine zP rfl ?_|refine zK rfl ?_
  exact o_nil ⟨⟨rfl,rfl,trivial⟩,rfl⟩
 subst hw
 refine cond hS rfl (fun hT=>?_) (fun hF2=>?_)
 ·refine wp_seq (seq_cut [(2,Vi 5)] (· = w3) tab_ok hS ?_ (fun a w4 hS hw=>?_))
  ·repeat first|refine zP rfl ?_|refine zK rfl ?_
   exact o_nil ⟨⟨rfl,trivial⟩,rfl⟩
  subst hw
  refine wp_ret ?_
  repeat (first | refine then_ret ?_ | refine block_ret ?_)
  exact ret1 hS rfl rfl ⟨by unfold validM; rw [hF,hT],hB⟩
 refine wp_skip ?_
 refine wp_seq (seq_cut [(2,Vi 0)] (· = w3) tab_ok hS ?_ (fun a w4 hS hw=>?_))
 ·repeat first|refine zP rfl ?_|refine zK rfl ?_
  exact o_nil ⟨⟨rfl,trivial⟩,rfl⟩
 subst hw
 refine wp_ret ?_
 repeat (first | refine then_ret ?_ | refine block_ret ?_)
 exact ret1 hS rfl rfl ⟨by unfold validM; rw [hF,hF2],hB⟩
end Go.Proofs.YthcoppfiahnpoaaGreat
namespace Go.Proofs.YthcoppfiahnpoaaGreat
open Go Sym
theorem afollow_any (L s : Int) (vn ve : Value) (next : List (List Int)) (st l : Int) (w : World) (hn : Sl w vn next PRow) (h1 : st < next.length) (h2 : 0 ≤ st → 0 ≤ l ∧ l < (next.getD st.toNat []).length) :
  Calls Tryz.prog 42 #[.agg #[Vi L,Vi s,vn,ve],Vi st,Vi l] w fun e w'=>e = .returned (Vi (stepM next st l)) ∧ RowKit.Below w.heap.size w w':=by
 refine Sym.enter (args:=[.agg #[Vi L,Vi s,vn,ve],Vi st,Vi l]) Tryz.func42 rfl rfl rfl (fun a0 hS0=>?_)
 refine wp_seq (seq_cut [(1,Vi st),(2,Vi l),(3,Vp w.heap.size)] (· = w.alloc (.cells #[Vi L,Vi s,vn,ve] 25)) tab_ok hS0 ?_ (fun a wc hS hw=>?_))
 ·refine zB rfl ?_
  repeat first|refine zP rfl ?_|refine zK rfl ?_
  exact o_nil ⟨⟨rfl,rfl,rfl,trivial⟩,rfl⟩
 obtain ⟨hB,hx⟩:=box_new hw
 clear hw
 refine wp_seq (wp_seq (seq_cut [(1,Vi st),(2,Vi l),(3,Vp w.heap.size),(8,.bool (decide (st < 0)))] (· = wc) tab_ok hS ?_ (fun a w2 hS hw=>?_)))
 ·repeat first|refine zP rfl ?_|refine zK rfl ?_
  refine zC rfl (rfl) ?_
  exact o_nil ⟨⟨rfl,rfl,rfl,rfl,trivial⟩,rfl⟩
 subst hw
 refine cond hS rfl (fun hlt=>?_) (fun hge=>?_)
 ·refine wp_seq (seq_cut [(6,Vi (-1))] (· = w2) tab_ok hS ?_ (fun a w3 hS hw=>?_))
  ·repeat first|refine zP rfl ?_|refine zK rfl ?_
   exact o_nil ⟨⟨rfl,trivial⟩,rfl⟩
  subst hw
  have : st < 0:=of_decide_eq_true hlt
  refine wp_ret ?_
  repeat (first | refine then_ret ?_ | refine block_ret ?_)
  refine ret1 hS rfl rfl ⟨by rw [stepM,if_pos this],hB⟩
 ·have hge : ¬ st < 0:=of_decide_eq_false hge
  obtain ⟨k,rfl⟩:=Int.eq_ofNat_of_zero_le (Int.not_lt.1 hge)
  obtain ⟨h3,h4⟩:=h2 (by omega)
  obtain ⟨j,rfl⟩:=Int.eq_ofNat_of_zero_le h3
  have hk : k < next.length:=by omega
  obtain ⟨an,b,o,cap,rfl,ha,hc1,hc2,hc⟩:=hn
  obtain rfl:=ha (by omega)
  obtain ⟨x,hxc,hr⟩:=hc k hk
  have hrow : next.getD (k : Int).toNat [] = next[k]:=by simp [List.getD_eq_getElem?_getD,hk]
  rw [hrow] at h4
  obtain ⟨ar,br,orr,cr,rfl,har,hr1,hr2,hr3⟩:=hr.1
  obtain rfl:=har (by omega)
  have hj : j < (next[k]).length:=by omega
  obtain ⟨y,hy,rfl,hy2⟩:=hr3 j hj
  refine wp_skip ?_
  refine wp_seq (seq_cut [(6,Vi (next[k][j]))] (· = w2) tab_ok hS ?_ (fun a w3 hS hw=>?_))
  ·repeat first|refine zP rfl ?_|refine zK rfl ?_
   refine zL rfl (hx.c2) ?_
   repeat first|refine zP rfl ?_|refine zK rfl ?_
   refine zI rfl (rfl) (hk) ?_
   refine zL rfl (keep hB hxc) ?_
   repeat first|refine zP rfl ?_|refine zK rfl ?_
   refine zI rfl (rfl) (hj) ?_
   refine zL rfl (keep hB hy) ?_
   repeat first|refine zP rfl ?_|refine zK rfl ?_
   exact o_nil ⟨⟨rfl,trivial⟩,rfl⟩
  subst hw
  have hk0 : ¬ (k : Int) < 0:=by omega
  refine wp_ret ?_
  repeat (first | refine then_ret ?_ | refine block_ret ?_)
  refine ret1 hS rfl rfl ⟨by simp [stepM,hk,hj,hk0],hB⟩
theorem aends_any (L s : Int) (vn ve : Value) (fin : List Bool) (st : Int) (w : World) (he : Sl w ve fin PBool) (h1 : st < fin.length) :
  Calls Tryz.prog 43 #[.agg #[Vi L,Vi s,vn,ve],Vi st] w fun e w'=>e = .returned (.bool (endsM fin st)) ∧ RowKit.Below w.heap.size w w':=by
 refine Sym.enter (args:=[.agg #[Vi L,Vi s,vn,ve],Vi st]) Tryz.func43 rfl rfl rfl (fun a0 hS0=>?_)
 refine wp_seq (seq_cut [(1,Vi st),(2,Vp w.heap.size)] (· = w.alloc (.cells #[Vi L,Vi s,vn,ve] 25)) tab_ok hS0 ?_ (fun a wc hS hw=>?_))
 ·refine zB rfl ?_
  repeat first|refine zP rfl ?_|refine zK rfl ?_
  exact o_nil ⟨⟨rfl,rfl,trivial⟩,rfl⟩
 obtain ⟨hB,hx⟩:=box_new hw
 clear hw
 replace he:=he.keep hB (fun _ _ h=>h)
 obtain ⟨hb,hhb⟩ : ∃ b,endsM fin st = b:=⟨_,rfl⟩
 refine wp_seq (seq_cut [(4,.bool hb)] (· = wc) tab_ok hS ?_ (fun a w2 hS hw=>?_))
 ·repeat first|refine zP rfl ?_|refine zK rfl ?_
  cases e1 : decide (0 ≤ st)
  case false=>
   obtain rfl : hb = false:=by rw [← hhb,endsM,e1]; rfl
   refine zC rfl (e1) ?_
   repeat first|refine zP rfl ?_|refine zK rfl ?_
   exact o_nil ⟨⟨rfl,trivial⟩,rfl⟩
  case true=>
   obtain ⟨k,rfl⟩:=Int.eq_ofNat_of_zero_le (of_decide_eq_true e1)
   obtain ⟨ae,be,oe,ce,rfl,hea,he1,he2,he3⟩:=he
   have hk : k < fin.length:=by omega
   obtain rfl:=hea (by omega)
   obtain ⟨y,hy,rfl⟩:=he3 k hk
   obtain rfl : hb = fin[k]:=by rw [← hhb]; simp [endsM,hk]
   refine zC rfl (e1) ?_
   repeat first|refine zP rfl ?_|refine zK rfl ?_
   refine zL rfl (hx.c3) ?_
   repeat first|refine zP rfl ?_|refine zK rfl ?_
   refine zI rfl (rfl) (hk) ?_
   refine zL rfl (hy) ?_
   repeat first|refine zP rfl ?_|refine zK rfl ?_
   exact o_nil ⟨⟨rfl,trivial⟩,rfl⟩
 subst hw
 refine wp_ret ?_
 repeat (first | refine then_ret ?_ | refine block_ret ?_)
 refine ret1 hS rfl rfl ⟨by rw [hhb],hB⟩
theorem alloc_size (w : World) (o : Obj) : (w.alloc o).heap.size = w.heap.size + 1:=Array.size_push _
theorem box_two {w wc : World} {L1 s1 L2 s2 : Int} {vn1 ve1 vn2 ve2 : Value} (hw : wc = (w.alloc (.cells #[Vi L1,Vi s1,vn1,ve1] 25)).alloc (.cells #[Vi L2,Vi s2,vn2,ve2] 25)) :
  RowKit.Below w.heap.size w wc ∧ Box wc w.heap.size L1 s1 vn1 ve1 ∧ Box wc (w.heap.size + 1) L2 s2 vn2 ve2:=by
 have h1:=below_alloc w (.cells #[Vi L1,Vi s1,vn1,ve1] 25)
 have h2:=below_alloc (w.alloc (.cells #[Vi L1,Vi s1,vn1,ve1] 25)) (.cells #[Vi L2,Vi s2,vn2,ve2] 25)
 have hs : (w.alloc (.cells #[Vi L1,Vi s1,vn1,ve1] 25)).heap.size = w.heap.size + 1:=alloc_size _ _
 rw [hw]
 refine ⟨below_trans h1 h2,(Box.new w L1 s1 vn1 ve1 25).keep h2,?_⟩
 have:=Box.new (w.alloc (.cells #[Vi L1,Vi s1,vn1,ve1] 25)) L2 s2 vn2 ve2 25
 rw [hs] at this
 exact this
theorem afit_any (L1 s1 L2 s2 : Int) (vn1 ve1 vn2 ve2 : Value) (n1 n2 : List (List Int)) (f1 f2 : List Bool) (w : World) (hm : Ma w L1 s1 n1 f1 vn1 ve1) (hm2 : Ma w L2 s2 n2 f2 vn2 ve2) :
  Calls Tryz.prog 28 #[.agg #[Vi L1,Vi s1,vn1,ve1],.agg #[Vi L2,Vi s2,vn2,ve2]] w fun e w'=>e = .returned (Vi (twoM L1 s1 n1 f1 L2 s2 n2 f2)) ∧ RowKit.Below w.heap.size w w':=by
 refine Sym.enter (args:=[.agg #[Vi L1,Vi s1,vn1,ve1],.agg #[Vi L2,Vi s2,vn2,ve2]]) Tryz.func28 rfl rfl rfl (fun a0 hS0=>?_)
 obtain ⟨B,hBB⟩ : ∃ B,B = w.heap.size:=⟨_,rfl⟩
 refine wp_seq (seq_cut [(2,Vp B),(3,Vp (B + 1))] (· = (w.alloc (.cells #[Vi L1,Vi s1,vn1,ve1] 25)).alloc (.cells #[Vi L2,Vi s2,vn2,ve2] 25)) tab_ok hS0 ?_ (fun a wc hS hw=>?_))
 ·subst hBB
  refine zB rfl ?_
  refine zB rfl ?_
  rw [alloc_size]
  repeat first|refine zP rfl ?_|refine zK rfl ?_
  exact o_nil ⟨⟨rfl,rfl,trivial⟩,rfl⟩
 obtain ⟨hB,hx1,hx2⟩:=box_two hw
 rw [← hBB] at hx1 hx2
 clear hw
 replace hm:=hm.keep hB
 replace hm2:=hm2.keep hB
 refine wp_seq (wp_seq (seq_cut [(2,Vp B),(3,Vp (B + 1)),(12,.bool (decide (validM L1 s1 n1 f1 ≠ 0) || decide (validM L2 s2 n2 f2 ≠ 0)))] (fun w'=>RowKit.Below wc.heap.size wc w') tab_ok hS ?_ (fun a w2 hS hw=>?_)))
 ·refine zA ([Vi L1,Vi s1,vn1,ve1]) rfl rfl (⟨hx1.c0,hx1.c1,hx1.c2,hx1.c3,trivial⟩) ?_
  refine zF rfl (en_aValid) (aValid_any L1 s1 vn1 ve1 n1 f1 wc hm) ?_
  rintro e w3 ⟨rfl,h3⟩
  refine ⟨_,rfl,?_⟩
  have hx2':=hx2.keep h3
  have hm2':=hm2.keep h3
  cases h1 : decide (validM L1 s1 n1 f1 ≠ 0)
  case true=>
   refine zC rfl (h1) ?_
   repeat first|refine zP rfl ?_|refine zK rfl ?_
   exact o_nil ⟨⟨rfl,rfl,rfl,trivial⟩,h3⟩
  refine zC rfl (h1) ?_
  repeat first|refine zP rfl ?_|refine zK rfl ?_
  refine zA ([Vi L2,Vi s2,vn2,ve2]) rfl rfl (⟨hx2'.c0,hx2'.c1,hx2'.c2,hx2'.c3,trivial⟩) ?_
  refine zF rfl (en_aValid) (aValid_any L2 s2 vn2 ve2 n2 f2 w3 hm2') ?_
  rintro e w4 ⟨rfl,h4⟩
  refine ⟨_,rfl,?_⟩
  refine zC rfl (rfl) ?_
  repeat first|refine zP rfl ?_|refine zK rfl ?_
  exact o_nil ⟨⟨rfl,rfl,rfl,trivial⟩,below_trans h3 h4⟩
 replace hx1:=hx1.keep hw
 replace hx2:=hx2.keep hw
 replace hB:=below_trans hB hw
 clear hw
 refine cond hS rfl (fun hT=>?_) (fun hF=>?_)
 ·refine wp_seq (seq_cut [(4,Vi 1)] (· = w2) tab_ok hS ?_ (fun a w3 hS hw=>?_))
  ·repeat first|refine zP rfl ?_|refine zK rfl ?_
   exact o_nil ⟨⟨rfl,trivial⟩,rfl⟩
  subst hw
  refine wp_ret ?_
  repeat (first | refine then_ret ?_ | refine block_ret ?_)
  refine ret1 hS rfl rfl ⟨?_,hB⟩
  simp only [Bool.or_eq_true,decide_eq_true_eq] at hT
  unfold twoM
  split
  ·rfl
  ·rename_i h
   rw [if_pos (hT.resolve_left h)]
 simp only [Bool.or_eq_false_iff,decide_eq_false_iff_not] at hF
 refine wp_skip ?_
 refine wp_seq (wp_seq (seq_cut [(17,.bool (decide (L1 ≠ L2)))] (· = w2) tab_ok hS ?_ (fun a w3 hS hw=>?_)))
 ·repeat first|refine zP rfl ?_|refine zK rfl ?_
  refine zL rfl (hx1.c0) ?_
  repeat first|refine zP rfl ?_|refine zK rfl ?_
  refine zL rfl (hx2.c0) ?_
  refine zC rfl (rfl) ?_
  repeat first|refine zP rfl ?_|refine zK rfl ?_
  exact o_nil ⟨⟨rfl,trivial⟩,rfl⟩
 subst hw
 refine cond hS rfl (fun hT=>?_) (fun hF2=>?_)
 ·refine wp_seq (seq_cut [(4,Vi 4)] (· = w3) tab_ok hS ?_ (fun a w4 hS hw=>?_))
  ·repeat first|refine zP rfl ?_|refine zK rfl ?_
   exact o_nil ⟨⟨rfl,trivial⟩,rfl⟩
  subst hw
  refine wp_ret ?_
  repeat (first | refine then_ret ?_ | refine block_ret ?_)
  exact ret1 hS rfl rfl ⟨by unfold twoM; rw [if_neg hF.1,if_neg hF.2,if_pos (of_decide_eq_true hT)],hB⟩
 refine wp_skip ?_
 refine wp_seq (seq_cut [(4,Vi 0)] (· = w3) tab_ok hS ?_ (fun a w4 hS hw=>?_))
 ·repeat first|refine zP rfl ?_|refine zK rfl ?_
  exact o_nil ⟨⟨rfl,trivial⟩,rfl⟩
 subst hw
 refine wp_ret ?_
 repeat (first | refine then_ret ?_ | refine block_ret ?_)
 exact ret1 hS rfl rfl ⟨by unfold twoM; rw [if_neg hF.1,if_neg hF.2,if_neg (of_decide_eq_false hF2)],hB⟩
theorem goM_neg (L : Int) (next : List (List Int)) (fin : List Bool) {st : Int} (h : st < 0) : ∀ l,goM L next fin st l = false
 | []=>by
   have : decide (0 ≤ st) = false:=decide_eq_false (by omega)
   simp [goM,endsM,this]
 | x :: r=>by
   have : decide (0 ≤ st) = false:=decide_eq_false (by omega)
   simp [goM,endsM,this]
theorem goM_step (L : Int) (next : List (List Int)) (fin : List Bool) (st x : Int) (r : List Int) (hx : (decide (x < 0) || decide (L ≤ x)) = false) : goM L next fin st (x :: r) = goM L next fin (stepM next st x) r:=by
 by_cases h : st < 0
 ·rw [goM_neg L next fin h,stepM_neg next h,goM_neg L next fin (by omega)]
 ·have : decide (0 ≤ st) = true:=decide_eq_true (by omega)
  rw [goM,this,hx]
theorem goM_bad (L : Int) (next : List (List Int)) (fin : List Bool) (st x : Int) (r : List Int) (hx : (decide (x < 0) || decide (L ≤ x)) = true) : goM L next fin st (x :: r) = false:=by
 by_cases h : st < 0
 ·rw [goM_neg L next fin h]
 ·have : decide (0 ≤ st) = true:=decide_eq_true (by omega)
  rw [goM,this,hx]
theorem aAccepts_any (L s : Int) (vn ve vw : Value) (next : List (List Int)) (fin : List Bool) (word : List Int) (w : World) (hm : Ma w L s next fin vn ve) (hwd : Sl w vw word PInt) :
  Calls Tryz.prog 17 #[.agg #[Vi L,Vi s,vn,ve],vw] w fun e w'=>e = .returned (.bool (acceptsM L s next fin word)) ∧ RowKit.Below w.heap.size w w':=by
 refine Sym.enter (args:=[.agg #[Vi L,Vi s,vn,ve],vw]) Tryz.func17 rfl rfl rfl (fun a0 hS0=>?_)
 obtain ⟨B,hBB⟩ : ∃ B,B = w.heap.size:=⟨_,rfl⟩
 refine wp_seq (seq_cut [(1,vw),(2,Vp B)] (· = w.alloc (.cells #[Vi L,Vi s,vn,ve] 25)) tab_ok hS0 ?_ (fun a wc hS hw=>?_))
 ·subst hBB
  refine zB rfl ?_
  repeat first|refine zP rfl ?_|refine zK rfl ?_
  exact o_nil ⟨⟨rfl,rfl,trivial⟩,rfl⟩
 obtain ⟨hB,hx⟩:=box_new hw
 rw [← hBB] at hx
 clear hw
 replace hm:=hm.keep hB
 replace hwd:=hwd.keep hB (fun _ _ h=>h)
 refine wp_seq (wp_seq (seq_cut [(1,vw),(2,Vp B),(10,.bool (decide (validM L s next fin ≠ 0)))] (fun w'=>RowKit.Below wc.heap.size wc w') tab_ok hS ?_ (fun a w2 hS hw=>?_)))
 ·refine zA ([Vi L,Vi s,vn,ve]) rfl rfl (⟨hx.c0,hx.c1,hx.c2,hx.c3,trivial⟩) ?_
  refine zF rfl (en_aValid) (aValid_any L s vn ve next fin wc hm) ?_
  rintro e w3 ⟨rfl,h3⟩
  refine ⟨_,rfl,?_⟩
  refine zC rfl (rfl) ?_
  repeat first|refine zP rfl ?_|refine zK rfl ?_
  exact o_nil ⟨⟨rfl,rfl,rfl,trivial⟩,h3⟩
 replace hx:=hx.keep hw
 replace hm:=hm.keep hw
 replace hwd:=hwd.keep hw (fun _ _ h=>h)
 replace hB:=below_trans hB hw
 clear hw
 refine cond hS rfl (fun hT=>?_) (fun hF=>?_)
 ·refine wp_seq (seq_cut [(4,.bool false)] (· = w2) tab_ok hS ?_ (fun a w3 hS hw=>?_))
  ·repeat first|refine zP rfl ?_|refine zK rfl ?_
   exact o_nil ⟨⟨rfl,trivial⟩,rfl⟩
  subst hw
  refine wp_ret ?_
  repeat (first | refine then_ret ?_ | refine block_ret ?_)
  exact ret1 hS rfl rfl ⟨by unfold acceptsM; rw [hT],hB⟩
 have hacc : acceptsM L s next fin word = goM L next fin s word:=by unfold acceptsM; rw [hF]
 have hv:=Decidable.not_not.1 (of_decide_eq_false hF)
 obtain ⟨hsh,hL3,-⟩:=shape_of_valid hv
 refine wp_skip ?_
 refine wp_seq (seq_cut [(1,vw),(2,Vp B),(5,Vi s)] (· = w2) tab_ok hS ?_ (fun a w3 hS hw=>?_))
 ·repeat first|refine zP rfl ?_|refine zK rfl ?_
  refine zL rfl (hx.c1) ?_
  repeat first|refine zP rfl ?_|refine zK rfl ?_
  exact o_nil ⟨⟨rfl,rfl,rfl,trivial⟩,rfl⟩
 subst hw
 obtain ⟨aw,bw,ow,cw,hvw,haw,hw1,hw2,hw3⟩:=hwd
 refine wp_seq (wp_seq (seq_cut [(2,Vp B),(5,Vi s),(13,vw),(14,Vi word.length),(15,Vi (0 : Nat))] (· = w3) tab_ok hS ?_ (fun a w4 hS hw=>?_)))
 ·subst hvw
  repeat first|refine zP rfl ?_|refine zK rfl ?_
  exact o_nil ⟨⟨rfl,rfl,rfl,rfl,rfl,trivial⟩,rfl⟩
 subst hw
 refine wp_block (loop0 hS (fun g E wr=>∃ (k : Nat) (st : Int),k ≤ word.length ∧ g = word.length - k ∧ E = [(2,Vp B),(5,Vi st),(13,vw),(14,Vi word.length),(15,Vi k)] ∧ RowKit.Below w4.heap.size w4 wr ∧ -1 ≤ st ∧ st < next.length ∧ goM L next fin s word = goM L next fin st (word.drop k)) word.length ⟨0,s,by omega,by omega,rfl,RowKit.Below.refl _ _,hsh.s1,hsh.s2,rfl⟩ ?_)
 clear hS
 rintro g E w5 a ⟨k,st,hk,rfl,rfl,hK,hst1,hst2,hgo⟩ hS
 refine wp_seq (seq_cut [(2,Vp B),(5,Vi st),(13,vw),(14,Vi word.length),(15,Vi k),(16,.bool (decide (k < word.length)))] (· = w5) tab_ok hS ?_ (fun a w6 hS hw=>?_))
 ·repeat first|refine zP rfl ?_|refine zK rfl ?_
  refine zC rfl (lt_nat _ _) ?_
  repeat first|refine zP rfl ?_|refine zK rfl ?_
  exact o_nil ⟨⟨rfl,rfl,rfl,rfl,rfl,rfl,trivial⟩,rfl⟩
 subst hw
 refine wp_seq (cond hS rfl (fun hT=>wp_skip ?_) (fun hF=>?_))
 rotate_left
 ·have hkk : k = word.length:=by have:=of_decide_eq_false hF; omega
  subst hkk
  rw [List.drop_length] at hgo
  refine wp_exit ?_
  repeat (first | refine then_exit ?_ | refine block_exit ?_ | refine block_other rfl ?_)
  refine wp_seq (seq_cut [(4,.bool (endsM fin st))] (fun w'=>RowKit.Below w6.heap.size w6 w') tab_ok hS ?_ (fun a w7 hS hw=>?_))
  ·refine zA ([Vi L,Vi s,vn,ve]) rfl rfl (⟨keep hK hx.c0,keep hK hx.c1,keep hK hx.c2,keep hK hx.c3,trivial⟩) ?_
   repeat first|refine zP rfl ?_|refine zK rfl ?_
   refine zF rfl (en_aends) (aends_any L s vn ve fin st w6 (hm.e.keep hK (fun _ _ h=>h)) (by rw [hsh.fin]; exact hst2)) ?_
   rintro e w3 ⟨rfl,h3⟩
   refine ⟨_,rfl,?_⟩
   repeat first|refine zP rfl ?_|refine zK rfl ?_
   exact o_nil ⟨⟨rfl,trivial⟩,h3⟩
  refine wp_ret ?_
  repeat (first | refine then_ret ?_ | refine block_ret ?_)
  refine ret1 hS rfl rfl ⟨?_,below_trans (below_trans hB hK) hw⟩
  rw [hacc,hgo]; rfl
 have hkk : k < word.length:=of_decide_eq_true hT
 obtain rfl:=haw (by omega)
 obtain ⟨x,hxw,rfl,-⟩:=hw3 k hkk
 rw [List.drop_eq_getElem_cons hkk] at hgo
 refine wp_seq (wp_block (wp_seq (seq_cut [(2,Vp B),(5,Vi st),(13,vw),(14,Vi word.length),(15,Vi k),(7,Vi word[k])] (· = w6) tab_ok hS ?_ (fun a w7 hS hw=>?_))))
 ·subst hvw
  refine zI rfl (rfl) (hkk) ?_
  refine zL rfl (keep hK hxw) ?_
  repeat first|refine zP rfl ?_|refine zK rfl ?_
  exact o_nil ⟨⟨rfl,rfl,rfl,rfl,rfl,rfl,trivial⟩,rfl⟩
 subst hw
 refine wp_seq (wp_seq (seq_cut [(2,Vp B),(5,Vi st),(13,vw),(14,Vi word.length),(15,Vi k),(7,Vi word[k]),(26,.bool (decide (word[k] < 0) || decide (L ≤ word[k])))] (· = w7) tab_ok hS ?_ (fun a w8 hS hw=>?_)))
 ·repeat first|refine zP rfl ?_|refine zK rfl ?_
  cases h1 : decide (word[k] < 0)
  case true=>
   refine zC rfl (h1) ?_
   repeat first|refine zP rfl ?_|refine zK rfl ?_
   exact o_nil ⟨⟨rfl,rfl,rfl,rfl,rfl,rfl,rfl,trivial⟩,rfl⟩
  refine zC rfl (h1) ?_
  repeat first|refine zP rfl ?_|refine zK rfl ?_
  refine zL rfl (keep hK hx.c0) ?_
  refine zC rfl (rfl) ?_
  repeat first|refine zP rfl ?_|refine zK rfl ?_
  exact o_nil ⟨⟨rfl,rfl,rfl,rfl,rfl,rfl,rfl,trivial⟩,rfl⟩
 subst hw
 refine cond hS rfl (fun hT=>?_) (fun hF=>?_)
 ·refine wp_seq (seq_cut [(4,.bool false)] (· = w8) tab_ok hS ?_ (fun a w9 hS hw=>?_))
  ·repeat first|refine zP rfl ?_|refine zK rfl ?_
   exact o_nil ⟨⟨rfl,trivial⟩,rfl⟩
  subst hw
  refine wp_ret ?_
  repeat (first | refine then_ret ?_ | refine block_ret ?_)
  refine ret1 hS rfl rfl ⟨?_,below_trans hB hK⟩
  rw [hacc,hgo,goM_bad _ _ _ _ _ _ hT]
 refine wp_skip ?_
 have hrange:=hF
 simp only [Bool.or_eq_false_iff,decide_eq_false_iff_not] at hrange
 refine seq_cut [(2,Vp B),(5,Vi (stepM next st word[k])),(13,vw),(14,Vi word.length),(15,Vi k)] (fun w'=>RowKit.Below w8.heap.size w8 w') tab_ok hS ?_ (fun a w9 hS hw=>?_)
 ·refine zA ([Vi L,Vi s,vn,ve]) rfl rfl (⟨keep hK hx.c0,keep hK hx.c1,keep hK hx.c2,keep hK hx.c3,trivial⟩) ?_
  repeat first|refine zP rfl ?_|refine zK rfl ?_
  refine zF rfl (en_afollow) (afollow_any L s vn ve next st word[k] w8 (hm.n.keep hK (fun _ _ h=>PRow.keep hK h)) hst2 (fun h0=>⟨by omega,by rw [row_len hsh h0 hst2]; omega⟩)) ?_
  rintro e w3 ⟨rfl,h3⟩
  refine ⟨_,rfl,?_⟩
  repeat first|refine zP rfl ?_|refine zK rfl ?_
  exact o_nil ⟨⟨rfl,rfl,rfl,rfl,rfl,trivial⟩,h3⟩
 refine block_normal ?_
 refine seq_cut [(2,Vp B),(5,Vi (stepM next st word[k])),(13,vw),(14,Vi word.length),(15,Vi (k + 1 : Nat))] (· = w9) tab_ok hS ?_ (fun a w10 hS hw2=>?_)
 ·repeat first|refine zP rfl ?_|refine zK rfl ?_
  refine zN rfl (i64_add k 1 (by omega)) ?_
  repeat first|refine zP rfl ?_|refine zK rfl ?_
  exact o_nil ⟨⟨rfl,rfl,rfl,rfl,rfl,trivial⟩,rfl⟩
 subst hw2
 have hr:=stepM_range hsh (st:=st) (l:=word[k]) hst2 (by omega) (by omega)
 exact ⟨word.length - (k + 1),_,by omega,⟨k + 1,stepM next st word[k],by omega,rfl,rfl,below_trans hK hw,hr.1,hr.2,by rw [hgo,goM_step _ _ _ _ _ _ hF]⟩,hS⟩
theorem aAccepts_c : AcceptsC 17:=fun L s vn ve vw next fin word w hm hw=>aAccepts_any L s vn ve vw next fin word w hm hw
end Go.Proofs.YthcoppfiahnpoaaGreat
namespace Go.Proofs.YthcoppfiahnpoaaGreat
open Go Sym
abbrev DU:=DataW Unit
def MapF {α : Type} (kl : α → Lit) (k : TypeId) (w : World) (b n : Nat) (f : α → Option Nat) : Prop:=
 ∃ D : DU,w.ownsMap Tryz.prog k (plainElem Tryz.prog 3) b n D ∧ ∀ x,Maps.has D (kl x) = (f x).isSome ∧ ∀ v,f x = some v → D.atKey (kl x) (.lit (.int .i64 0)) = .lit (.int .i64 (v : Int))
section
variable {α : Type} {kl : α → Lit} {kv : α → Value} {k t : TypeId} {w w' : World} {b n : Nat} {f : α → Option Nat}
theorem wf_nat {v : Nat} (h : v ≤ 9223372036854775807) : (Lit.int .i64 (v : Int)).wf = true:=by
 simp only [Lit.wf,Bool.and_eq_true,decide_eq_true_eq]
 simp only [IntKind.min,IntKind.max,IntKind.bits,IntKind.signed]
 constructor <;> simp <;> omega
theorem MapF.made (kl : α → Lit) (k : TypeId) (w : World) : MapF kl k (w.alloc (.map #[] 0)) w.heap.size 0 (fun _=>none):=
 ⟨.map [],World.ownsMap_made w _ _ _,fun x=>⟨rfl,fun v h=>by cases h⟩⟩
theorem MapF.kept {row : Option Nat} (h : MapF kl k w b n f) (hg : w.grownBy w' row) (hne : some b ≠ row) : MapF kl k w' b n f:=by
 obtain ⟨D,h,h2⟩:=h
 exact ⟨D,h.kept hg hne,h2⟩
theorem MapF.below (h : MapF kl k w b n f) (hb : RowKit.Below w.heap.size w w') : MapF kl k w' b n f:=h.kept (grown_below hb) (by simp)
theorem zero_int (w : World) : (zeroValue 3).run Tryz.prog w = .ok (Vi 0) w:=by
 have hi : (Tryz.prog.info? 3).map (fun i=>i.zero) = some (some (Vi 0)):=by kernel_rfl
 obtain ⟨i,h1,h2⟩:=Option.map_eq_some_iff.1 hi
 simp [zeroValue,typeInfo,h1,h2]
theorem und_int' : Tryz.prog.underlying 3 = some (.int .i64):=by kernel_rfl
theorem MapF.look (h : MapF kl k w b n f) (K : Maps.Keyed Tryz.prog k) (ht : Tryz.prog.underlying t = some (.map k 3)) (x : α) (hk : keyOf Tryz.prog k (kv x) = some (kl x)) :
  (Instr.lookup t (.map (some b)) (kv x) true).run Tryz.prog w = .ok (.tuple #[Vi (((f x).getD 0 : Nat) : Int),.bool (f x).isSome]) w:=by
 obtain ⟨D,h,h2⟩:=h
 obtain ⟨v,ps,hrun,hv⟩:=h.look_ok K ht (zero_int w) (plainElem_int und_int' (wf_nat (v:=0) (by omega))) hk
 obtain ⟨a,rfl,hz⟩:=plainElem_int_inv und_int' hv
 obtain ⟨hz1,hz2⟩:=hz
 simp only [Prod.mk.injEq] at hz1
 obtain ⟨h3,h4⟩:=h2 x
 rw [h3] at hrun
 have key : a = (((f x).getD 0 : Nat) : Int):=by
  cases hf : f x with
  | none=>
    rw [hf] at h3
    have e:=Maps.atKey_of_not_has h3 (.lit (.int .i64 0))
    have e2:=hz1.1
    rw [e] at e2
    simp only [DataW.lit.injEq,Lit.int.injEq,true_and] at e2
    simp [← e2]
  | some u=>
    have e:=h4 u hf
    have e2:=hz1.1
    rw [e] at e2
    simp only [DataW.lit.injEq,Lit.int.injEq,true_and] at e2
    simp [e2]
 rw [hrun,key]
theorem MapF.put [DecidableEq α] (h : MapF kl k w b n f) (K : Maps.Keyed Tryz.prog k) (ht : Tryz.prog.underlying t = some (.map k 3)) (hn : n < maxLen) (x : α) (hk : keyOf Tryz.prog k (kv x) = some (kl x)) (hinj : ∀ y,kl y = kl x → y = x) {v : Nat} (hv : v ≤ 9223372036854775807) :
  ∃ w',(Instr.mapUpdate t (.map (some b)) (kv x) (Vi v)).run Tryz.prog w = .ok () w' ∧ MapF kl k w' b (n + 1) (fun y=>if y = x then some v else f y) ∧ w.grownBy w' (some b):=by
 obtain ⟨D,h,h2⟩:=h
 obtain ⟨w',hrun,ho,hg⟩:=h.update K ht hn hk (plainElem_int und_int' (wf_nat hv))
 refine ⟨w',hrun,⟨_,ho,fun y=>?_⟩,hg⟩
 by_cases hy : y = x
 ·subst hy
  dsimp only
  rw [if_pos rfl,Maps.has_put_same h.isMap (K.key hk)]
  refine ⟨rfl,fun u hu=>?_⟩
  try rw [if_pos rfl] at hu
  simp only [Option.some.injEq] at hu
  subst hu
  exact Maps.atKey_put_same h.isMap (K.key hk) _ _
 ·have hne : kl y ≠ kl x:=fun e=>hy (hinj y e)
  simp only [if_neg hy]
  rw [Maps.has_put_other hne]
  refine ⟨(h2 y).1,fun u hu=>?_⟩
  rw [Maps.atKey_put_other hne]
  exact (h2 y).2 u hu
variable {base : Nat} {w0 : World} {l : List Ow}
theorem map_row {e s m : Nat} {v : Value} {xs : List Value} (h : MapF kl k w b n f) (hr : w.ownsRow base e s v m xs) : some b ≠ v.ownBlock:=by
 obtain ⟨D,⟨es,clock,hb,_⟩,_⟩:=h
 rcases hr.2 with ⟨rfl,_⟩ | ⟨g,cap,cur,rfl,_,hg,_⟩
 ·simp [Value.ownBlock]
 ·intro e
  simp only [Value.ownBlock,Option.some.injEq] at e
  subst e
  rw [hb] at hg
  cases hg
theorem MapF.row {i : Nat} {o : Ow} (h : MapF kl k w b n f) (hr : Rows base w l) (hi : l[i]? = some o) (hg : w.grownBy w' o.v.ownBlock) : MapF kl k w' b n f:=
 h.kept hg (map_row h (hr.1 i o hi))
theorem MapF.store {i g m m' c e s j : Nat} {xs : List Value} {u : Value} (h : MapF kl k w b n f) (hr : Rows base w l) (hi : l[i]? = some ⟨Vs g m c,e,s,m',xs⟩) : MapF kl k (w.setCell ⟨g,j,none⟩ u) b n f:=
 h.row hr hi (grown_set w g j u)
theorem Hold.map (h : Hold base w0 w l) (hm : MapF kl k w b n f) (hb : base ≤ b) (hg : w.grownBy w' (some b)) : Hold base w0 w' l:=
 ⟨⟨fun i o hi=>(h.r.1 i o hi).kept hg (by
   cases ho : o.v.ownBlock with
   | none=>exact .inl rfl
   | some x=>
     have:=map_row hm (h.r.1 i o hi)
     rw [ho] at this
     exact .inr (Ne.symm this)),h.r.2⟩,
  ⟨hg.os.trans h.b.os,hg.tape.trans h.b.tape,hg.output.trans h.b.output,Nat.le_trans h.b.size hg.size,fun q hq=>(hg.block q (Nat.lt_of_lt_of_le hq h.s) (fun e=>by simp only [Option.some.injEq] at e; omega)).trans (h.b.block q hq)⟩,
  Nat.le_trans h.s hg.size⟩
end
abbrev natL (x : Nat) : Lit:=.int .i64 (x : Int)
abbrev natV (x : Nat) : Value:=Vi x
theorem natK : Maps.Keyed Tryz.prog 3:=Maps.int_keyed und_int'
theorem natL_inj (x : Nat) : ∀ y,natL y = natL x → y = x:=fun y h=>by
 simp only [natL,Lit.int.injEq,true_and] at h
 omega
theorem natKey {x : Nat} (h : x ≤ 9223372036854775807) : keyOf Tryz.prog 3 (natV x) = some (natL x):=Maps.keyOf_int_mk und_int' (wf_nat h)
theorem und_mapI : Tryz.prog.underlying 118 = some (.map 3 3):=by kernel_rfl
abbrev MapN (w : World) (b n : Nat) (f : Nat → Option Nat) : Prop:=MapF natL 3 w b n f
theorem MapN.look {w : World} {b n : Nat} {f : Nat → Option Nat} (h : MapN w b n f) {x : Nat} (hx : x ≤ 9223372036854775807) :
  (Instr.lookup 118 (.map (some b)) (Vi x) true).run Tryz.prog w = .ok (.tuple #[Vi (((f x).getD 0 : Nat) : Int),.bool (f x).isSome]) w:=MapF.look (kv:=natV) h natK und_mapI x (natKey hx)
theorem MapN.put {w : World} {b n : Nat} {f : Nat → Option Nat} (h : MapN w b n f) (hn : n < maxLen) {x v : Nat} (hx : x ≤ 9223372036854775807) (hv : v ≤ 9223372036854775807) :
  ∃ w',(Instr.mapUpdate 118 (.map (some b)) (Vi x) (Vi v)).run Tryz.prog w = .ok () w' ∧ MapN w' b (n + 1) (fun y=>if y = x then some v else f y) ∧ w.grownBy w' (some b):=
 MapF.put (kv:=natV) h natK und_mapI hn x (natKey hx) (natL_inj x) hv
end Go.Proofs.YthcoppfiahnpoaaGreat
namespace Go.Proofs.YthcoppfiahnpoaaGreat
structure PartsI (bs : List Blk) (c0 q : Nat) (f : Nat → Option Nat) (B : List Nat) : Prop where
 f1 : ∀ P v,f P = some v → P < c0 ∧ v < q ∧ (v = P ∨ (c0 ≤ v ∧ (gb bs v).parent = P))
 f2 : ∀ b,c0 ≤ b → b < q → b ∈ B ∨ b = (f (gb bs b).parent).getD (gb bs b).parent
 f3 : ∀ P,P < c0 → P ∈ B ∨ (f P).getD P = P
 f4 : ∀ x ∈ B,x < q
theorem PartsI.start (bs : List Blk) (c0 : Nat) : PartsI bs c0 c0 (fun _=>none) []:=
 ⟨fun P v h=>(by cases h),fun b h1 h2=>by omega,fun P _=>.inr rfl,fun x h=>by cases h⟩
theorem PartsI.step {bs : List Blk} {c0 q : Nat} {f : Nat → Option Nat} {B : List Nat} (h : PartsI bs c0 q f B) (hq : c0 ≤ q) {P : Nat} (hP : (gb bs q).parent = P) (hPc : P < c0) {rv sm : Nat}
  (hc : (rv = q ∧ sm = (f P).getD P) ∨ (rv = (f P).getD P ∧ sm = q)) : PartsI bs c0 (q + 1) (fun y=>if y = P then some rv else f y) (B ++ [sm]):=by
 have hr : (f P).getD P < q ∧ ((f P).getD P = P ∨ (c0 ≤ (f P).getD P ∧ (gb bs ((f P).getD P)).parent = P)):=by
  cases hf : f P with
  | none=>exact ⟨by simp; omega,.inl rfl⟩
  | some v=>
    have:=h.f1 P v hf
    exact ⟨this.2.1,this.2.2⟩
 refine ⟨fun P' v hv=>?_,fun b h1 h2=>?_,fun P' hP'=>?_,fun x hx=>?_⟩
 ·by_cases e : P' = P
  ·subst e
   simp only [if_true,Option.some.injEq] at hv
   subst hv
   refine ⟨hPc,?_⟩
   rcases hc with ⟨rfl,_⟩ | ⟨rfl,_⟩
   ·exact ⟨by omega,.inr ⟨hq,hP⟩⟩
   ·exact ⟨by omega,hr.2⟩
  ·rw [if_neg e] at hv
   have:=h.f1 P' v hv
   exact ⟨this.1,by omega,this.2.2⟩
 ·by_cases e : b = q
  ·subst e
   simp only [hP,if_true,Option.getD_some]
   rcases hc with ⟨rfl,_⟩ | ⟨_,rfl⟩
   ·exact .inr rfl
   ·exact .inl (by simp)
  ·rcases h.f2 b h1 (by omega) with h3 | h3
   ·exact .inl (List.mem_append_left _ h3)
   ·by_cases e2 : (gb bs b).parent = P
    ·rw [e2] at h3 ⊢
     simp only [if_true,Option.getD_some]
     rcases hc with ⟨_,rfl⟩ | ⟨rfl,_⟩
     ·exact .inl (by rw [← h3]; simp)
     ·exact .inr h3
    ·rw [if_neg e2]; exact .inr h3
 ·by_cases e : P' = P
  ·subst e
   simp only [if_true,Option.getD_some]
   rcases h.f3 P' hP' with h3 | h3
   ·exact .inl (List.mem_append_left _ h3)
   ·rcases hc with ⟨_,rfl⟩ | ⟨rfl,_⟩
    ·exact .inl (by rw [h3]; simp)
    ·exact .inr h3
  ·rw [if_neg e]
   exact (h.f3 P' hP').imp (List.mem_append_left _) id
 ·rcases List.mem_append.1 hx with h3 | h3
  ·have:=h.f4 x h3; omega
  ·rw [List.mem_singleton] at h3
   subst h3
   rcases hc with ⟨_,rfl⟩ | ⟨_,rfl⟩ <;> omega
theorem PartsI.tells {p : Pt} {R c0 c1 : Nat} {f : Nat → Option Nat} {B : List Nat} (h : PartsI p.bs c0 c1 f B) (h0 : gt p.cs (R - 1) = c0) (h1 : gt p.cs R = c1) : Tells p R B:=by
 intro x y hx hy hne e
 rw [h0] at e
 rw [h1] at hx hy
 have key : ∀ z,z < c1 → z ∈ B ∨ z = (f (upB p.bs c0 z)).getD (upB p.bs c0 z):=fun z hz=>by
  unfold upB
  split
  ·rename_i hc; exact h.f2 z hc hz
  ·rename_i hc
   rcases h.f3 z (by omega) with h3 | h3
   ·exact .inl h3
   ·exact .inr h3.symm
 rcases key x hx with h3 | h3
 ·exact .inl h3
 ·rcases key y hy with h4 | h4
  ·exact .inr h4
  ·rw [← e] at h4
   exact (hne (h3.trans h4.symm)).elim
def Pt.mem (p : Pt) (b : Nat) : List Nat:=(p.st.drop (gb p.bs b).first).take (gb p.bs b).size
theorem mem_len {p : Pt} {N b : Nat} {todo : List Nat} (h : PI p N todo) (hb : b < p.bs.length) : (p.mem b).length = (gb p.bs b).size:=by
 have:=h.bd b hb
 simp only [Pt.mem,List.length_take,List.length_drop,h.st]
 omega
theorem mem_get {p : Pt} {b j : Nat} (hj : j < (gb p.bs b).size) : gt (p.mem b) j = gt p.st ((gb p.bs b).first + j):=by
 show ((p.st.drop (gb p.bs b).first).take (gb p.bs b).size).getD j 0 = p.st.getD ((gb p.bs b).first + j) 0
 rw [List.getD_eq_getElem?_getD,List.getD_eq_getElem?_getD,List.getElem?_take,if_pos hj,List.getElem?_drop]
theorem mem_iff {p : Pt} {N b : Nat} {todo : List Nat} (h : PI p N todo) (hb : b < p.bs.length) (s : Nat) : s ∈ p.mem b ↔ s < N ∧ gt p.bl s = b:=by
 have hbd:=h.bd b hb
 constructor
 ·intro hs
  obtain ⟨j,hj,e⟩:=List.mem_iff_getElem.1 hs
  have hj' : j < (gb p.bs b).size:=by rw [← mem_len h hb]; exact hj
  have e2 : s = gt p.st ((gb p.bs b).first + j):=by
   rw [← mem_get hj',← e]; simp [gt,List.getD_eq_getElem?_getD,hj]
  rw [e2]
  exact ⟨(h.sp _ (by omega)).1,h.own b hb _ (by omega) (by omega)⟩
 ·rintro ⟨hs,rfl⟩
  have h1:=h.inn s hs
  have h2:=h.ps s hs
  obtain ⟨j,hj⟩ : ∃ j,gt p.pl s = (gb p.bs (gt p.bl s)).first + j:=⟨gt p.pl s - (gb p.bs (gt p.bl s)).first,by omega⟩
  have hj' : j < (gb p.bs (gt p.bl s)).size:=by omega
  have hjl : j < (p.mem (gt p.bl s)).length:=by rw [mem_len h hb]; exact hj'
  have:=mem_get hj'
  rw [← hj,h2.2] at this
  have g1 : gt (p.mem (gt p.bl s)) j = (p.mem (gt p.bl s))[j]:=by
   show (p.mem (gt p.bl s)).getD j 0 = _
   rw [List.getD_eq_getElem?_getD,List.getElem?_eq_getElem hjl]; rfl
  have h5 : (p.mem (gt p.bl s))[j] ∈ p.mem (gt p.bl s):=List.getElem_mem hjl
  rw [← g1,this] at h5
  exact h5
theorem mem_nodup {p : Pt} {N b : Nat} {todo : List Nat} (h : PI p N todo) (hb : b < p.bs.length) : (p.mem b).Nodup:=by
 have hbd:=h.bd b hb
 rw [List.nodup_iff_pairwise_ne,List.pairwise_iff_getElem]
 intro i j hi hj hij e
 rw [mem_len h hb] at hi hj
 have e1:=mem_get hi
 have e2:=mem_get hj
 have hi' : i < (p.mem b).length:=by rw [mem_len h hb]; exact hi
 have hj' : j < (p.mem b).length:=by rw [mem_len h hb]; exact hj
 have g1 : gt (p.mem b) i = (p.mem b)[i]:=by simp [gt,List.getD_eq_getElem?_getD,hi']
 have g2 : gt (p.mem b) j = (p.mem b)[j]:=by simp [gt,List.getD_eq_getElem?_getD,hj']
 have : gt p.st ((gb p.bs b).first + i) = gt p.st ((gb p.bs b).first + j):=by rw [← e1,← e2,g1,g2,e]
 have h1:=(h.sp ((gb p.bs b).first + i) (by omega)).2
 have h2:=(h.sp ((gb p.bs b).first + j) (by omega)).2
 rw [this,h2] at h1
 omega
end Go.Proofs.YthcoppfiahnpoaaGreat
namespace Go.Proofs.YthcoppfiahnpoaaGreat
open Go Sym
theorem en_clone : enters Tryz.prog 85 = true:=by kernel_rfl
theorem en_parts : enters Tryz.prog 64 = true:=by kernel_rfl
theorem cells_of {cell : Addr → Option Value} {b : Nat} : ∀ (l : List Value) (o : Nat),(∀ i (h : i < l.length),cell ⟨b,o + i,none⟩ = some l[i]) → cellsAt cell b o l
 | [],_,_=>trivial
 | v :: r,o,h=>⟨h 0 (by simp),cells_of r (o + 1) (fun i hi=>by
   have:=h (i + 1) (by simp; omega)
   rw [show o + 1 + i = o + (i + 1) by omega]
   simpa using this)⟩
section
variable {w : World}
theorem clone_any {g o c : Nat} {l : List Nat} (hl : 0 < l.length) (hn : l.length ≤ 100000000) (hc : cellsAt w.cell? g o (n32s l)) :
  Calls Tryz.prog 85 #[.slice (some ⟨g,o,none⟩) l.length c] w fun e w'=>∃ v',e = .returned v' ∧ w.grownBy w' none ∧ w'.ownsRow w.heap.size 21 1 v' l.length (n32s l):=by
 refine Sym.enter (args:=[.slice (some ⟨g,o,none⟩) l.length c]) Tryz.func85 rfl rfl rfl (fun a0 hS0=>?_)
 refine wp_seq (seq_cut [(0,.slice (some ⟨g,o,none⟩) l.length c)] (· = w) tab_ok hS0 ?_ (fun a w1 hS hw=>?_))
 ·repeat first|refine zP rfl ?_|refine zK rfl ?_
  exact o_nil ⟨⟨rfl,trivial⟩,rfl⟩
 subst hw
 refine wp_seq (wp_seq (seq_cut [(0,.slice (some ⟨g,o,none⟩) l.length c),(4,.bool false)] (· = w1) tab_ok hS ?_ (fun a w2 hS hw=>?_)))
 ·repeat first|refine zP rfl ?_|refine zK rfl ?_
  exact o_nil ⟨⟨rfl,rfl,trivial⟩,rfl⟩
 subst hw
 refine cond hS rfl (fun hT=>by cases hT) (fun _=>?_)
 refine wp_skip ?_
 refine wp_seq (seq_cutx (α:=Value) (fun v'=>[(2,v')]) (fun v' w'=>w2.grownBy w' none ∧ w'.ownsRow w2.heap.size 21 1 v' l.length (n32s l)) tab_ok hS ?_ (fun v' a w3 hS h=>?_))
 ·refine o_step rfl rfl rfl ?_
  refine Exists.intro [] (Exists.intro #[] (And.intro (And.intro rfl rfl) (And.intro (by decide) (And.intro (by simp [Instr.fill,madeCells]) ?_))))
  have hb1:=below_alloc w2 (.cells #[] 21)
  have hown0:=own_lit w2 w2.heap.size 21 (Nat.le_refl _)
  have hc1 : cellsAt (w2.alloc (.cells #[] 21)).cell? g o (n32s l):=by
   have : ∀ (l : List Value) (o : Nat),cellsAt w2.cell? g o l → cellsAt (w2.alloc (.cells #[] 21)).cell? g o l:=by
    intro l
    induction l with
    | nil=>intro o _; exact trivial
    | cons v r ih=>intro o h; exact ⟨keep hb1 h.1,ih (o + 1) h.2⟩
   exact this _ _ hc
  have ask : AppAsk (w2.alloc (.cells #[] 21)) ⟨21,.int .i32,1,4,.int .i32 0⟩ (Vs w2.heap.size 0 0) 0 [] (.slice (some ⟨g,o,none⟩) l.length c) l.length (n32s l) w2.heap.size:=
   ⟨hown0,.inr ⟨g,o,c,rfl,hc1⟩,(by show (n32s l).length = l.length * 1; simp),(by simp [Value.oneCell']),(by omega),(by show (0 + l.length) * 4 ≤ _; omega),hb1.size⟩
  repeat first|refine zP rfl ?_|refine zK rfl ?_
  refine o_step rfl rfl rfl ?_
  refine Exists.intro _ (Exists.intro _ (Exists.intro _ (Exists.intro _ (Exists.intro _ (And.intro (ask) (And.intro (fun _ h=>h.symm) (And.intro (by decide) ?_)))))))
  rintro v' w3 hown hgr - hat
  repeat first|refine zP rfl ?_|refine zK rfl ?_
  refine o_nil ⟨v',⟨rfl,trivial⟩,?_,by simpa using hown⟩
  refine ⟨hgr.os.trans hb1.os,hgr.tape.trans hb1.tape,hgr.output.trans hb1.output,Nat.le_trans hb1.size hgr.size,fun k hk _=>?_⟩
  refine (hgr.block k (Nat.lt_of_lt_of_le hk hb1.size) (fun e=>?_)).trans (hb1.block k hk)
  simp only [Value.ownBlock,Option.some.injEq] at e
  omega
 refine wp_ret ?_
 repeat (first | refine then_ret ?_ | refine block_ret ?_)
 exact ret1 hS rfl rfl ⟨v',rfl,h.1,h.2⟩
end
def partsR (vp : Value) (vs : List Value) (Ls : List (List Nat)) : List Ow:=⟨vp,59,1,vs.length,vs⟩ :: List.zipWith (fun v l=>oS v l) vs Ls
theorem n32s_cells {base : Nat} {w : World} {l : List Ow} (h : Rows base w l) {i g n c o k : Nat} {xs : List Nat} (hi : l[i]? = some (oS (Vs g n c) xs)) (hk : o + k ≤ xs.length) : cellsAt w.cell? g o (n32s ((xs.drop o).take k)):=by
 refine cells_of _ _ fun j hj=>?_
 have hj' : j < k:=by
  have : (n32s ((xs.drop o).take k)).length = min k (xs.length - o):=by simp
  omega
 have:=h.cS hi (j:=o + j) (by omega)
 rw [Nat.zero_add] at this
 rw [this]
 simp only [List.getElem_map,List.getElem_take,List.getElem_drop]
 simp [gt,List.getD_eq_getElem?_getD,show o + j < xs.length by omega]
theorem partsR_snoc {vp' v : Value} {vs : List Value} {Ls : List (List Nat)} {l : List Nat} (hl : vs.length = Ls.length) : partsR vp' (vs ++ [v]) (Ls ++ [l]) = ⟨vp',59,1,vs.length + 1,vs ++ [v]⟩ :: (List.zipWith (fun v l=>oS v l) vs Ls ++ [oS v l]):=by
 unfold partsR
 rw [List.zipWith_append hl]
 simp
theorem partsR_get {vp : Value} {vs : List Value} {Ls : List (List Nat)} (hl : vs.length = Ls.length) {i : Nat} (hi : i < Ls.length) {rest : List Ow} : ∃ v,vs[i]? = some v ∧ (partsR vp vs Ls ++ rest)[i + 1]? = some (oS v Ls[i]):=by
 have hi' : i < vs.length:=by omega
 refine ⟨vs[i],by simp [hi'],?_⟩
 unfold partsR
 rw [List.cons_append,List.getElem?_cons_succ,List.getElem?_append_left (by simp; omega)]
 simp [List.getElem?_zipWith,hi,hi']
section
variable {base : Nat} {w0 w : World} {b : Nat} {p : Pt} {N : Nat} {rest : List Ow}
structure PS (base : Nat) (w0 w : World) (b mb : Nat) (p : Pt) (c0 q : Nat) (vp : Value) (rest : List Ow) : Prop where
 ex : ∃ (f : Nat → Option Nat) (B : List Nat) (V : PV) (vs : List Value),PartsI p.bs c0 q f B ∧ vs.length = B.length ∧ B.length = q - c0 ∧ base ≤ mb ∧ MapN w mb (q - c0) f ∧ Hold base w0 w (ptR b p V ++ (partsR vp vs (B.map p.mem) ++ rest))
theorem parts_any {R c0 c1 : Nat} (h : HoldP base w0 w b p rest) (hp : PI p N []) (hN : N ≤ 100000000) (hcs : p.cs.length = R + 1) (hR : 0 < R) (hRn : R ≤ 100000000) (h0 : gt p.cs (R - 1) = c0) (h1 : gt p.cs R = c1) (h01 : c0 ≤ c1) (hc1 : c1 ≤ p.bs.length)
  (hpar : ∀ x,c0 ≤ x → x < c1 → (gb p.bs x).parent < c0) :
  Calls Tryz.prog 64 #[Vp b] w fun e w'=>∃ vp V vs B,e = .returned vp ∧ Tells p R B ∧ (∀ x ∈ B,x < c1) ∧ vs.length = B.length ∧ B.length ≤ c1 ∧ Hold base w0 w' (ptR b p V ++ (partsR vp vs (B.map p.mem) ++ rest)):=by
 obtain ⟨V,h⟩:=h
 refine Sym.enter (args:=[Vp b]) Tryz.func64 rfl rfl rfl (fun a0 hS0=>?_)
 have hfew:=hp.few
 have hst:=hp.st
 refine wp_seq (seq_cut [(0,Vp b)] (· = w) tab_ok hS0 ?_ (fun a w1 hS hw=>?_))
 ·repeat first|refine zP rfl ?_|refine zK rfl ?_
  exact o_nil ⟨⟨rfl,trivial⟩,rfl⟩
 subst hw
 refine wp_seq (seq_cut [(0,Vp b),(3,.slice none 0 0)] (· = w1) tab_ok hS ?_ (fun a w2 hS hw=>?_))
 ·repeat first|refine zP rfl ?_|refine zK rfl ?_
  exact o_nil ⟨⟨rfl,rfl,trivial⟩,rfl⟩
 subst hw
 obtain ⟨mb,hmb⟩ : ∃ mb,mb = w2.heap.size:=⟨_,rfl⟩
 refine wp_seq (seq_cut [(0,Vp b),(3,.slice none 0 0),(4,.map (some mb))] (· = w2.alloc (.map #[] 0)) tab_ok hS ?_ (fun a w3 hS hw=>?_))
 ·subst hmb
  refine zB rfl ?_
  repeat first|refine zP rfl ?_|refine zK rfl ?_
  exact o_nil ⟨⟨rfl,rfl,rfl,trivial⟩,rfl⟩
 have hm0 : MapN w3 mb 0 (fun _=>none):=by rw [hw,hmb]; exact MapF.made _ _ _
 have hbm : base ≤ mb:=by rw [hmb]; exact h.s
 replace h : Hold base w0 w3 (ptR b p V ++ rest):=by rw [hw]; exact h.alloc _
 clear hw hmb
 replace h : Hold base w0 w3 (ptR b p V ++ (partsR (.slice none 0 0) [] (([] : List Nat).map p.mem) ++ rest)):=
  (h.nil 59 1).perm (by
   show List.Perm (_ :: (ptR b p V ++ rest)) (ptR b p V ++ (_ :: rest))
   exact List.perm_middle.symm)
 obtain ⟨vst,vpl,vbl,vbs,vcs,vml⟩:=V
 obtain ⟨gcs,ccs,rfl,-⟩:=h.r.nilOr (i:=5) rfl (by omega)
 refine wp_seq (wp_seq (quiet_cut [(0,Vp b),(3,.slice none 0 0),(4,.map (some mb)),(5,Vi c0)] tab_ok mixed (by kernel_rfl) hS ?_ (fun a w4 hS hw=>?_)))
 ·have c:=h.r.cN (i:=5) rfl (j:=R - 1) (by omega)
  rw [h0] at c
  have e1 : IntKind.i64.wrap (((p.cs.length - 1 : Nat) : Int) - 1) = ((R - 1 : Nat) : Int):=by
   rw [hcs]; exact i64_sub R 1 (by omega) (by omega)
  repeat first|refine qP rfl ?_|refine qK rfl ?_
  refine qL rfl (h.r.xcell (i:=0) rfl (j:=4) rfl) ?_
  repeat first|refine qP rfl ?_|refine qK rfl ?_
  refine qF (Vi (p.cs.length - 1 : Nat)) rfl (en_round) (fun w1 h1=>round_any (h.below h1) (by omega) (by omega)) ?_
  refine qN rfl (e1) ?_
  refine qI rfl (rfl) ((by omega)) ?_
  refine qL rfl (c) ?_
  repeat first|refine qP rfl ?_|refine qK rfl ?_
  exact q_nil ⟨rfl,rfl,rfl,rfl,trivial⟩
 replace h:=h.below hw
 replace hm0:=hm0.below hw
 clear hw
 refine wp_block (loop0 hS (fun g E w'=>∃ (q : Nat) (vp : Value),c0 ≤ q ∧ q ≤ c1 ∧ g = c1 - q ∧ E = [(0,Vp b),(3,vp),(4,.map (some mb)),(5,Vi q)] ∧ PS base w0 w' b mb p c0 q vp rest) (c1 - c0)
  ⟨c0,_,Nat.le_refl _,h01,rfl,rfl,⟨_,[],_,[],PartsI.start _ _,rfl,by simp,hbm,by rw [Nat.sub_self]; exact hm0,h⟩⟩ ?_)
 clear h hS hm0
 rintro g E w5 a ⟨q,vp,hq0,hq1,rfl,rfl,⟨f,B,⟨vst,vpl,vbl,vbs,vcs,vml⟩,vs,hPI,hvs,hBl,-,hm,h⟩⟩ hS
 obtain ⟨gcs,ccs,rfl,-⟩:=h.r.nilOr (i:=5) rfl (by omega)
 refine wp_seq (wp_seq (quiet_cut [(0,Vp b),(3,vp),(4,.map (some mb)),(5,Vi q),(29,.bool (decide (q < c1)))] tab_ok mixed (by kernel_rfl) hS ?_ (fun a w6 hS hw=>?_)))
 ·have c:=h.r.cN (i:=5) rfl (j:=p.cs.length - 1) (by omega)
  rw [show gt p.cs (p.cs.length - 1) = c1 by rw [hcs]; exact h1] at c
  repeat first|refine qP rfl ?_|refine qK rfl ?_
  refine qL rfl (h.r.xcell (i:=0) rfl (j:=4) rfl) ?_
  repeat first|refine qP rfl ?_|refine qK rfl ?_
  refine qF (Vi (p.cs.length - 1 : Nat)) rfl (en_round) (fun w1 h1=>round_any (h.below h1) (by omega) (by omega)) ?_
  refine qI rfl (rfl) ((by omega)) ?_
  refine qL rfl (c) ?_
  refine qC rfl (lt_nat _ _) ?_
  repeat first|refine qP rfl ?_|refine qK rfl ?_
  exact q_nil ⟨rfl,rfl,rfl,rfl,rfl,trivial⟩
 replace h:=h.below hw
 replace hm:=hm.below hw
 clear hw
 refine cond hS rfl (fun hT=>wp_skip ?_) (fun hF=>?_)
 rotate_left
 ·have hqc : q = c1:=by have:=of_decide_eq_false hF; omega
  subst hqc
  refine wp_exit ?_
  repeat (first | refine then_exit ?_ | refine block_exit ?_ | refine block_other rfl ?_)
  refine wp_seq (seq_cut [(2,vp)] (· = w6) tab_ok hS ?_ (fun a w7 hS hw=>?_))
  ·repeat first|refine zP rfl ?_|refine zK rfl ?_
   exact o_nil ⟨⟨rfl,trivial⟩,rfl⟩
  subst hw
  refine wp_ret ?_
  repeat (first | refine then_ret ?_ | refine block_ret ?_)
  exact ret1 hS rfl rfl ⟨vp,_,vs,B,rfl,hPI.tells h0 h1,hPI.f4,hvs,by omega,h⟩
 have hqc : q < c1:=of_decide_eq_true hT
 have hqb : q < p.bs.length:=by omega
 obtain ⟨P,hP⟩ : ∃ P,(gb p.bs q).parent = P:=⟨_,rfl⟩
 have hPc : P < c0:=by rw [← hP]; exact hpar q hq0 hqc
 obtain ⟨gbs,cbs,rfl,-⟩:=h.r.nilOr (i:=4) rfl (by omega)
 refine wp_seq (wp_block (wp_seq (seq_cut [(0,Vp b),(3,vp),(4,.map (some mb)),(5,Vi q),(6,Vi P)] (· = w6) tab_ok hS ?_ (fun a w7 hS hw=>?_))))
 ·have c:=h.r.cK3 (i:=4) rfl hqb
  rw [hP] at c
  repeat first|refine zP rfl ?_|refine zK rfl ?_
  refine zL rfl (h.r.xcell (i:=0) rfl (j:=3) rfl) ?_
  repeat first|refine zP rfl ?_|refine zK rfl ?_
  refine zI rfl (rfl) (hqb) ?_
  refine zP rfl ?_
  refine zL rfl (c) ?_
  repeat first|refine zP rfl ?_|refine zK rfl ?_
  exact o_nil ⟨⟨rfl,rfl,rfl,rfl,rfl,trivial⟩,rfl⟩
 subst hw
 obtain ⟨r,hr⟩ : ∃ r,(f P).getD P = r:=⟨_,rfl⟩
 have hrq : r < q:=by
  rw [← hr]
  cases hf : f P with
  | none=>simp; omega
  | some v=>have:=hPI.f1 P v hf; simp; omega
 refine wp_seq (seq_cut [(0,Vp b),(3,vp),(4,.map (some mb)),(5,Vi q),(6,Vi P),(7,Vi (((f P).getD 0 : Nat) : Int)),(8,.bool (f P).isSome)] (· = w7) tab_ok hS ?_ (fun a w8 hS hw=>?_))
 ·repeat first|refine zP rfl ?_|refine zK rfl ?_
  refine o_step rfl rfl rfl (Exists.intro _ (And.intro (MapN.look hm (by omega)) ?_))
  repeat first|refine zP rfl ?_|refine zK rfl ?_
  exact o_nil ⟨⟨rfl,rfl,rfl,rfl,rfl,rfl,rfl,trivial⟩,rfl⟩
 subst hw
 refine wp_seq (cut (F:=fun a' w'=>St Tryz.f64.ntmps a' [(0,Vp b),(3,vp),(4,.map (some mb)),(5,Vi q),(6,Vi P),(7,Vi r)] ∧ w' = w8) ?_ ?_)
 ·refine wp_seq (seq_cut [(0,Vp b),(3,vp),(4,.map (some mb)),(5,Vi q),(6,Vi P),(7,Vi (((f P).getD 0 : Nat) : Int)),(47,.bool (!(f P).isSome))] (· = w8) tab_ok hS ?_ (fun a w9 hS hw=>?_))
  ·repeat first|refine zP rfl ?_|refine zK rfl ?_
   exact o_nil ⟨⟨rfl,rfl,rfl,rfl,rfl,rfl,rfl,trivial⟩,rfl⟩
  subst hw
  refine cond hS rfl (fun hT=>?_) (fun hF=>?_)
  ·refine seq_cut [(0,Vp b),(3,vp),(4,.map (some mb)),(5,Vi q),(6,Vi P),(7,Vi r)] (· = w9) tab_ok hS ?_ (fun a w10 hS hw=>⟨hS,hw⟩)
   have hn : f P = none:=by cases hf : f P with
    | none=>rfl
    | some v=>rw [hf] at hT; cases hT
   rw [hn] at hr
   have hr : P = r:=hr
   rw [← hr]
   repeat first|refine zP rfl ?_|refine zK rfl ?_
   exact o_nil ⟨⟨rfl,rfl,rfl,rfl,rfl,rfl,trivial⟩,rfl⟩
  ·refine wp_skip ?_
   obtain ⟨v,hv⟩ : ∃ v,f P = some v:=by cases hf : f P with
    | none=>rw [hf] at hF; cases hF
    | some v=>exact ⟨v,rfl⟩
   rw [hv] at hr hS
   have hr : v = r:=hr
   subst hr
   exact ⟨hS.sub ⟨rfl,rfl,rfl,rfl,rfl,rfl,trivial⟩,rfl⟩
 clear hS
 rintro a w9 ⟨hS,rfl⟩
 refine wp_seq (seq_cut [(0,Vp b),(3,vp),(4,.map (some mb)),(5,Vi q),(6,Vi P),(7,Vi r),(9,Vi q)] (· = w9) tab_ok hS ?_ (fun a w10 hS hw=>?_))
 ·repeat first|refine zP rfl ?_|refine zK rfl ?_
  exact o_nil ⟨⟨rfl,rfl,rfl,rfl,rfl,rfl,rfl,trivial⟩,rfl⟩
 subst hw
 refine wp_seq (cut (F:=fun a' w'=>RowKit.Below w10.heap.size w10 w' ∧ ∃ rv sm : Nat,((rv = q ∧ sm = (f P).getD P) ∨ (rv = (f P).getD P ∧ sm = q)) ∧ St Tryz.f64.ntmps a' [(0,Vp b),(3,vp),(4,.map (some mb)),(5,Vi q),(6,Vi P),(7,Vi rv),(9,Vi sm)]) ?_ ?_)
 ·refine wp_seq (quiet_cut [(0,Vp b),(3,vp),(4,.map (some mb)),(5,Vi q),(6,Vi P),(7,Vi r),(9,Vi q),(66,.bool (decide ((gb p.bs r).size < (gb p.bs q).size)))] tab_ok mixed (by kernel_rfl) hS ?_ (fun a w11 hS hw=>?_))
  ·repeat first|refine qP rfl ?_|refine qK rfl ?_
   refine qL rfl (h.r.xcell (i:=0) rfl (j:=3) rfl) ?_
   repeat first|refine qP rfl ?_|refine qK rfl ?_
   refine qI rfl (rfl) (hqb) ?_
   refine qP rfl ?_
   refine qL rfl (h.r.cK1 (i:=4) rfl hqb) ?_
   repeat first|refine qP rfl ?_|refine qK rfl ?_
   refine qL rfl (h.r.xcell (i:=0) rfl (j:=3) rfl) ?_
   repeat first|refine qP rfl ?_|refine qK rfl ?_
   refine qI rfl (rfl) ((by omega)) ?_
   refine qP rfl ?_
   refine qL rfl (h.r.cK1 (i:=4) rfl (j:=r) (by omega)) ?_
   refine qC rfl (lt_nat _ _) ?_
   repeat first|refine qP rfl ?_|refine qK rfl ?_
   exact q_nil ⟨rfl,rfl,rfl,rfl,rfl,rfl,rfl,rfl,trivial⟩
  refine cond hS rfl (fun hT=>?_) (fun hF=>?_)
  ·refine seq_cut [(0,Vp b),(3,vp),(4,.map (some mb)),(5,Vi q),(6,Vi P),(7,Vi q),(9,Vi r)] (· = w11) tab_ok hS ?_ (fun a w12 hS hw2=>?_)
   ·repeat first|refine zP rfl ?_|refine zK rfl ?_
    exact o_nil ⟨⟨rfl,rfl,rfl,rfl,rfl,rfl,rfl,trivial⟩,rfl⟩
   subst hw2
   exact ⟨hw,q,r,.inl ⟨rfl,hr.symm⟩,hS⟩
  ·exact wp_skip ⟨hw,r,q,.inr ⟨hr.symm,rfl⟩,hS.sub ⟨rfl,rfl,rfl,rfl,rfl,rfl,rfl,trivial⟩⟩
 clear hS
 rintro a w11 ⟨hw,rv,sm,hc,hS⟩
 replace h:=h.below hw
 replace hm:=hm.below hw
 clear hw
 have hrv : rv ≤ q:=by rcases hc with ⟨rfl,_⟩ | ⟨rfl,_⟩ <;> omega
 have hsm : sm ≤ q:=by rcases hc with ⟨_,rfl⟩ | ⟨_,rfl⟩ <;> omega
 have hPI2:=hPI.step hq0 hP hPc hc
 clear hc
 obtain ⟨w12,hrun,hm2,hg2⟩:=MapN.put hm (by unfold maxLen; omega) (x:=P) (v:=rv) (by omega) (by omega)
 refine wp_seq (seq_cut [(0,Vp b),(3,vp),(4,.map (some mb)),(5,Vi q),(9,Vi sm)] (· = w12) tab_ok hS ?_ (fun a w13 hS hw=>?_))
 ·repeat first|refine zP rfl ?_|refine zK rfl ?_
  refine o_step0 rfl rfl (Exists.intro _ (And.intro hrun ?_))
  repeat first|refine zP rfl ?_|refine zK rfl ?_
  exact o_nil ⟨⟨rfl,rfl,rfl,rfl,rfl,trivial⟩,rfl⟩
 subst hw
 replace h:=h.map hm hbm hg2
 clear hm hrun hg2 hPI
 have hsb : sm < p.bs.length:=by omega
 have hbd:=hp.bd sm hsb
 obtain ⟨gst,cst,rfl,-⟩:=h.r.nilOr (i:=1) rfl (by omega)
 obtain ⟨gvp,cvp,rfl,-⟩:=h.r.any (i:=7) rfl
 have hml:=mem_len hp hsb
 refine seq_cutx (α:=Value) (fun vp'=>[(0,Vp b),(3,vp'),(4,.map (some mb)),(5,Vi q)]) (fun vp' w'=>PS base w0 w' b mb p c0 (q + 1) vp' rest) tab_ok hS ?_ (fun vp' a w14 hS h=>?_)
 ·repeat first|refine zP rfl ?_|refine zK rfl ?_
  refine zL rfl (h.r.xcell (i:=0) rfl (j:=3) rfl) ?_
  repeat first|refine zP rfl ?_|refine zK rfl ?_
  refine zI rfl (rfl) (hsb) ?_
  refine zA ([Vi ((gb p.bs sm).first : Int),Vi ((gb p.bs sm).size : Int),Vi ((gb p.bs sm).marked : Int),Vi ((gb p.bs sm).parent : Int)]) rfl rfl (⟨h.r.cK0 (i:=4) rfl hsb,h.r.cK1 (i:=4) rfl hsb,h.r.cK2 (i:=4) rfl hsb,h.r.cK3 (i:=4) rfl hsb,trivial⟩) ?_
  refine zF rfl (en_members) (members_any h (k:=(gb p.bs sm).size) (by omega) (by omega) (by omega)) ?_
  rintro e w14 ⟨rfl,hw⟩
  refine ⟨_,rfl,?_⟩
  replace h:=h.below hw
  replace hm2:=hm2.below hw
  have hcl:=n32s_cells h.r (i:=1) rfl (o:=(gb p.bs sm).first) (k:=(gb p.bs sm).size) (by omega)
  have hcln:=clone_any (c:=cst - (gb p.bs sm).first) (l:=p.mem sm) (by omega) (by omega) hcl
  rw [hml] at hcln
  refine zF rfl (en_clone) (hcln) ?_
  rintro e w15 ⟨v',rfl,hg,hown⟩
  refine ⟨_,rfl,?_⟩
  obtain ⟨g1,n1,c1',hv1⟩:=own_form hown
  subst hv1
  rw [← hml] at hown
  have h2:=h.new (o:=oS (.slice g1 n1 c1') (p.mem sm)) hg (own_mono hown h.s) (by
   cases hb : (Value.slice g1 n1 c1').ownBlock with
   | none=>exact .inl rfl
   | some x=>exact .inr ⟨x,rfl,(hown.lt x hb).1⟩)
  have hm3:=hm2.kept hg (by simp)
  refine o_step rfl rfl rfl ?_
  refine Exists.intro [(0,.slice g1 n1 c1')] (Exists.intro #[.slice g1 n1 c1'] (And.intro (And.intro rfl rfl) (And.intro (by decide) (And.intro (fill1 _ _ _ _) ?_))))
  have hal:=below_alloc w15 (.cells #[.slice g1 n1 c1'] 59)
  have h3:=h2.alloc (.cells #[.slice g1 n1 c1'] 59)
  have hm4:=hm3.below hal
  have ask : AppAsk (w15.alloc (.cells #[.slice g1 n1 c1'] 59)) ⟨59,.slice 21,1,24,.slice none 0 0⟩ (.slice gvp vs.length cvp) vs.length vs (Vs w15.heap.size 1 1) 1 [.slice g1 n1 c1'] base:=
   ⟨h3.r.1 8 _ rfl,.inr ⟨_,0,_,rfl,cell_alloc_new rfl,trivial⟩,rfl,(by simp [Value.oneCell']),(by omega),(by show (vs.length + 1) * 24 ≤ _; omega),h3.s⟩
  refine o_step rfl rfl rfl ?_
  refine Exists.intro _ (Exists.intro _ (Exists.intro _ (Exists.intro _ (Exists.intro _ (And.intro (ask) (And.intro (fun _ h=>h.symm) (And.intro (by decide) ?_)))))))
  rintro v' w16 hown2 hgr - hat
  have h4:=h3.app (i:=8) rfl hown2 hgr hat
  have hm5:=hm4.row h3.r (i:=8) rfl hgr
  repeat first|refine zP rfl ?_|refine zK rfl ?_
  refine o_nil ⟨v',⟨rfl,rfl,rfl,rfl,trivial⟩,⟨_,B ++ [sm],⟨Vs gst p.st.length cst,vpl,vbl,Vs gbs p.bs.length cbs,Vs gcs p.cs.length ccs,vml⟩,vs ++ [.slice g1 n1 c1'],hPI2,by simp [hvs],by simp [hBl]; omega,hbm,by rw [show q + 1 - c0 = q - c0 + 1 by omega]; exact hm5,?_⟩⟩
  rw [List.map_append,List.map_singleton,partsR_snoc (by simpa using hvs)]
  refine h4.perm ?_
  show List.Perm (oS (.slice g1 n1 c1') (p.mem sm) :: (ptR b p _ ++ (_ :: (List.zipWith (fun v l=>oS v l) vs (B.map p.mem) ++ rest)))) (ptR b p _ ++ (_ :: (List.zipWith (fun v l=>oS v l) vs (B.map p.mem) ++ [oS (.slice g1 n1 c1') (p.mem sm)]) ++ rest))
  have e:=List.perm_middle (a:=oS (.slice g1 n1 c1') (p.mem sm)) (l₁:=ptR b p ⟨Vs gst p.st.length cst,vpl,vbl,Vs gbs p.bs.length cbs,Vs gcs p.cs.length ccs,vml⟩ ++ (⟨v',59,1,vs.length + 1,vs ++ [.slice g1 n1 c1']⟩ :: List.zipWith (fun v l=>oS v l) vs (B.map p.mem))) (l₂:=rest)
  simp only [List.append_assoc,List.cons_append,List.nil_append] at e ⊢
  exact e.symm
 refine block_normal ?_
 refine seq_cut [(0,Vp b),(3,vp'),(4,.map (some mb)),(5,Vi (q + 1 : Nat))] (· = w14) tab_ok hS ?_ (fun a w15 hS hw=>?_)
 ·repeat first|refine zP rfl ?_|refine zK rfl ?_
  refine zN rfl (i64_add _ 1 (by omega)) ?_
  repeat first|refine zP rfl ?_|refine zK rfl ?_
  exact o_nil ⟨⟨rfl,rfl,rfl,rfl,trivial⟩,rfl⟩
 subst hw
 exact ⟨c1 - (q + 1),_,by omega,⟨q + 1,vp',by omega,by omega,rfl,rfl,h⟩,hS⟩
end
end Go.Proofs.YthcoppfiahnpoaaGreat
