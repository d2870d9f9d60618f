import Derived.Deep.AppendLies
import Derived.Deep.Draws
import Derived.Deep.LoopGhost
import Derived.Deep.RegionLaw
import Derived.Lib.Walk
import Derived.Test.YtjbpgdpciinlcaaGreatBg08
set_option maxHeartbeats 40000000
set_option maxRecDepth 1000000
namespace Go.Proofs.YtjbpgdpciinlcaaGreat
open Go.RowKit Meet
variable {bel:Bool}{u:Int}{rows:List (List Int)}{l:List Int}{vs xs:List Value}{B b c n o pB q s:Nat}{e e':TypeId}{v vr:Value}{W w:World}
theorem qAO(x:Int)(w:World):Cl 139 #[.int .i64 x] w fun e w'=>e=.returned (.bool false)/\w'=w:=by
 go_enter Tryz.func139,Tryz.ntmps139
 go_wp2;go_ret;exact⟨by simp,rfl⟩
theorem js(x:Int)(w:World):Cl 157 #[.int .i64 x] w fun e w'=>e=.returned (.bool false)/\w'=w:=by
 go_enter Tryz.func157,Tryz.ntmps157
 go_wp2;go_ret;exact⟨by simp,rfl⟩
theorem Zy(x y:Int)(w:World):Cl 156 #[.int .i64 x,.int .i64 y] w fun e w'=>e=.returned (.bool (decide (x < y)))/\w'=w:=by
 go_enter Tryz.func156,Tryz.ntmps156
 go_wp2_with (first|(go_at_call 139;refine(qAO _ _).mono ?_;rintro e w' ⟨rfl,rfl⟩))
 go_ret;exact⟨rfl,rfl⟩
def Up(l:List Int):Prop:=∀i j,i<=j->j < l.length->l.getD i 0<=l.getD j 0
theorem ur(h:Asc l):Up l:=fun i j hij hj=>by
 rcases Nat.lt_or_ge i j with h1|h1
 ·exact Int.le_of_lt (h i j h1 hj)
 ·rw[show i=j by omega];exact Int.le_refl _
def bsQ(l:List Int)(x:Int):Nat:=l.countP fun y=>decide (y < x)
def bsF(l:List Int)(x:Int):Bool:=decide (bsQ l x < l.length)&&decide (l.getD (bsQ l x) 0=x)
theorem qBP{x:Int}(hq:q<=l.length)(h1:∀j,j < q->l.getD j 0 < x)(h2:∀j,q<=j->j < l.length->x<=l.getD j 0):bsQ l x=q:=by
 unfold bsQ;conv=>lhs;rw[<-tD q l]
 rw[List.countP_append]
 have a:(l.take q).countP (fun y=>decide (y < x))=(l.take q).length:=List.countP_eq_length.2 fun y hy=>by
  obtain⟨j,hj,e⟩:=gO hy;rw[bQ]at hj;have:=h1 j (by omega);rw[gD,gE (by omega)]at this;rw[List.getElem_take]at e;simp only[Option.getD_some,e]at this;exact decide_eq_true this
 have b:(l.drop q).countP (fun y=>decide (y < x))=0:=List.countP_eq_zero.2 fun y hy=>by
  obtain⟨j,hj,e⟩:=gO hy;rw[List.length_drop]at hj;have:=h2 (q+j) (by omega) (by omega);rw[gD,gE (by omega)]at this;rw[List.getElem_drop]at e;simp only[Option.getD_some,e]at this;simp;omega
 rw[a,b,bQ];omega
theorem qCX(hs:Up l)(x:Int):∃q,q<=l.length/\(∀j,j < q->l.getD j 0 < x)/\(∀j,q<=j->j < l.length->x<=l.getD j 0):=by
 have key:∀d k,k+d=l.length->(∀j,j < k->l.getD j 0 < x)->∃q,q<=l.length/\(∀j,j < q->l.getD j 0 < x)/\(∀j,q<=j->j < l.length->x<=l.getD j 0):=by
  intro d;induction d with
  |zero=>intro k hk h;exact⟨k,by omega,h,fun j h1 h2=>by omega⟩
  |succ d ih=>
   intro k hk h;by_cases hx:l.getD k 0 < x
   ·exact ih (k+1) (by omega) (fun j hj=>by
     rcases Nat.lt_or_ge j k with h1|h1
     ·exact h j h1
     ·rw[show j=k by omega];exact hx)
   ·exact⟨k,by omega,h,fun j h1 h2=>by have:=hs k j h1 h2;omega⟩
 exact key l.length 0 (by omega) (fun j hj=>by omega)
theorem ZD(hs:Up l)(x:Int):bsQ l x<=l.length/\(∀j,j < bsQ l x->l.getD j 0 < x)/\(∀j,bsQ l x<=j->j < l.length->x<=l.getD j 0):=by
 obtain⟨q,h1,h2,h3⟩:=qCX hs x;rw[qBP h1 h2 h3];exact⟨h1,h2,h3⟩
theorem Xh{a b:Bool}{k:Nat}(h:k=q)(h':a=b):Ending.returned (.tuple #[.int .i64 k,.bool a])=.returned (.tuple #[.int .i64 q,.bool b]):=by rw[h,h']
theorem kB(w:World)(v:Value)(l:List Int)(x:Int)(h:IS w v l)(hl:l.length<=1099511627776)(hs:Up l):
 Cl 129 #[v,.int .i64 x] w fun e w'=>e=.returned (.tuple #[.int .i64 (bsQ l x),.bool (bsF l x)])/\∃d,w'=w.drewN d:=by
 obtain⟨rq,hrq⟩:∃r,r=bsQ l x:=⟨_,rfl⟩;obtain⟨rf,hrf⟩:∃r,r=bsF l x:=⟨_,rfl⟩;rw[<-hrq,<-hrf];obtain⟨a,cap,rfl,hc⟩:=h;obtain⟨n,hn⟩:∃n,n=l.length:=⟨_,rfl⟩;rw[<-hn]at hc hl ⊢;have HC:=hid hc
 have HQ:Hid (∀q,q<=n->(∀t,t < q->l.getD t 0 < x)->(∀t,q<=t->t < n->x<=l.getD t 0)->q=rq/\(decide (q < n)&&decide (l.getD q 0=x))=rf):=hid (by
  intro q h1 h2 h3;have e:=qBP (by rw[<-hn];exact h1) h2 (by rw[<-hn];exact h3);rw[hrq,hrf];unfold bsF;rw[e,<-hn];exact⟨rfl,rfl⟩)
 have S:Hid (∀i j,i<=j->j < n->l.getD i 0<=l.getD j 0):=hid (by rw[hn];exact hs);clear hc hn hs hrq hrf;go_enter Tryz.func129,Tryz.ntmps129
 go_wp2;go_loopg [7,8] n (fun g s7 s8 wr=>∃lo hi q:Nat,s7=.int .i64 lo/\s8=.int .i64 hi/\lo<=hi/\hi<=n/\hi - lo<=g/\wr=w.drewN q/\Hid ((∀t,t < lo->l.getD t 0 < x)/\(∀t,hi<=t->t < n->x<=l.getD t 0)))
 case atStart=>exact⟨0,n,0,rfl,rfl,nZ _,nR _,by omega,rfl,hid ⟨fun t ht=>absurd ht (Nat.not_lt_zero _),fun t h1 h2=>by omega⟩⟩
 case round=>
  obtain⟨lo,hi,q,rfl,rfl,hlh,hin,hg,rfl,I⟩:=hrel;by_cases hlt:lo < hi
  ·rcases HC.out with h0|⟨b,o,rfl,hcell⟩
   ·omega
   ·have cm:w.cell? ⟨b,o+(lo+hi) / 2,none⟩=some (.int .i64 (l.getD ((lo+hi) / 2) 0)):=hcell _ (by omega);clear hcell;generalize hy:l.getD ((lo+hi) / 2) 0=y at cm;have Y:Hid (l.getD ((lo+hi) / 2) 0=y):=hid hy;clear hy;by_cases hyx:y < x
    ·go_wp2_with (first|(go_at_call 156;refine(Zy _ _ _).mono ?_;rintro e w' ⟨rfl,rfl⟩))
     go_roundg (hi - ((lo+hi) / 2+1))
     case measure=>omega
     case rel=>
      refine⟨(lo+hi) / 2+1,hi,_,by rw[show((lo:Int)+(hi:Int)) / 2+1=(((lo+hi) / 2+1:Nat):Int)by omega],rfl,by omega,hin,nR _,rfl,hid ⟨fun t ht=>?_,I.out.2⟩⟩;have:=S.out t ((lo+hi) / 2) (by omega) (by omega);rw[Y.out]at this;omega
    ·go_wp2_with (first|(go_at_call 156;refine(Zy _ _ _).mono ?_;rintro e w' ⟨rfl,rfl⟩))
     go_roundg ((lo+hi) / 2 - lo)
     case measure=>omega
     case rel=>
      refine⟨lo,(lo+hi) / 2,_,rfl,by rw[show((lo:Int)+(hi:Int)) / 2=(((lo+hi) / 2:Nat):Int)by omega],by omega,by omega,nR _,rfl,hid ⟨I.out.1,fun t ht htn=>?_⟩⟩;have:=S.out ((lo+hi) / 2) t ht htn;rw[Y.out]at this;omega
  ·have:hi=lo:=by omega
   subst this;obtain⟨E1,E2⟩:=HQ.out hi hin I.out.1 I.out.2;have HE1:=hid E1;by_cases hn:hi < n
   ·rcases HC.out with h0|⟨b,o,rfl,hcell⟩
    ·omega
    ·have cl:w.cell? ⟨b,o+hi,none⟩=some (.int .i64 (l.getD hi 0)):=hcell _ (by omega);have HE2:Hid (decide (l.getD hi 0=x)=rf):=hid (by rw[<-E2];simp[hn]);clear hcell E1 E2;generalize l.getD hi 0=y at *;have dn:decide (hi < n)=true:=by simp;omega
     by_cases hyx:y=x
     ·go_wp2_with (first|(go_at_call 157;refine(js _ _).mono ?_;rintro e w' ⟨rfl,rfl⟩))
      go_ret2;exact⟨Xh HE1.out (by rw[<-HE2.out];simp[hyx]),_,rfl⟩
     ·go_wp2_with (first|(go_at_call 157;refine(js _ _).mono ?_;rintro e w' ⟨rfl,rfl⟩))
      go_ret2;exact⟨Xh HE1.out (by rw[<-HE2.out];simp[hyx]),_,rfl⟩
   ·have dn:decide (hi < n)=false:=by simp;omega
    have HE2:Hid (false=rf):=hid (by rw[<-E2,dn];rfl);clear E1 E2;go_wp2_with (first|(go_at_call 157;refine(js _ _).mono ?_;rintro e w' ⟨rfl,rfl⟩))
    go_ret2;exact⟨Xh HE1.out HE2.out,_,rfl⟩
theorem XQ(h:Asc l)(p:Nat):Up (l.drop p):=fun i j hij hj=>by
 rw[List.length_drop]at hj;have:=ur h (p+i) (p+j) (by omega) (by omega);simpa only[List.getD_eq_getElem?_getD,List.getElem?_drop]using this
theorem Tryz.infoCur:(Tryz.prog.info? 207).map (fun i=>(i.zero,i.size,i.bytes))=some (some (.agg #[.pointer none,.int .i64 0]),2,16):=by kernel_rfl
theorem Zg{w':World}(h:w.ownsRow B e s v n xs)(ho:Og c w w')(ht:∃cur,w.heap[c]?=some (.cells cur e' (0,0)))(hne:e≠e'):w'.ownsRow B e s v n xs:=by
 obtain⟨h1,h2⟩:=h;refine⟨h1,?_⟩;rcases h2 with h2|⟨g,cap,cur,hv,hg,hc,hr⟩
 ·exact Or.inl h2
 ·refine Or.inr ⟨g,cap,cur,hv,hg,?_,hr⟩
  rw[ho.block g (fun e=>by
   obtain⟨cur',hc'⟩:=ht;rw[e,hc']at hc;simp only[Option.some.injEq,Obj.cells.injEq]at hc;exact hne hc.2.1.symm)]
  exact hc
theorem own_ne(h:w.ownsRow B e s v n xs)(ht:∃cur,w.heap[b]?=some (.cells cur e' (0,0)))(hne:e≠e'):some b≠v.ownBlock:=by
 intro hb;obtain⟨h1,h2⟩:=h;rcases h2 with ⟨rfl,_⟩|⟨g,cap,cur,rfl,hg,hc,hr⟩
 ·simp[Value.ownBlock]at hb
 ·simp only[Value.ownBlock,Option.some.injEq]at hb;subst hb;obtain⟨cur',hc'⟩:=ht;rw[hc']at hc;simp only[Option.some.injEq,Obj.cells.injEq]at hc;exact hne hc.2.1.symm
theorem xF(h:∃cur,w.heap[b]?=some (.cells cur e (0,0))):b < w.heap.size:=by
 obtain⟨cur,h⟩:=h;rcases Nat.lt_or_ge b w.heap.size with h3|h3
 ·exact h3
 ·rw[Array.getElem?_eq_none h3]at h;cases h
theorem qH(w:World)(v:Value)(t:TypeId):∀j u,[v][j]?=some u->(w.alloc (.cells #[v] t)).cell? ((⟨w.heap.size,0,none⟩:Addr).add j)=some u:=by
 intro j u hj;match j,hj with
 |0,hj=>simp at hj;subst hj;simp[Addr.add]
theorem Tryz.infoIS:(Tryz.prog.info? 24).map (fun i=>(i.zero,i.size,i.bytes))=some (some (.slice none 0 0),1,24):=by kernel_rfl
structure PR(W:World)(B pB:Nat)(u:Int)(bel:Bool)(vr:Value)(vs:List Value)(rows:List (List Int)):Prop where
 typ:∃cur,W.heap[pB]?=some (.cells cur 121 (0,0))
 c0:W.cell? ⟨pB,0,none⟩=some (.int .i64 u)
 c1:W.cell? ⟨pB,1,none⟩=some vr
 c2:W.cell? ⟨pB,2,none⟩=some (.bool bel)
 f1:W.frozen? ⟨pB,1,none⟩=false
 own:W.ownsRow B 24 1 vr rows.length vs
 len:vs.length=rows.length
 each:∀i,i < rows.length->W.ownsRow B 3 1 (vs.getD i undef) (rows.getD i []).length ((rows.getD i []).map (Value.int .i64))
theorem PR.below{W':World}(h:PR W B pB u bel vr vs rows)(hb:Bl W W'):PR W' B pB u bel vr vs rows where
 typ:=by rw[hb.block pB (xF h.typ)];exact h.typ
 c0:=(hb.cell (p:=⟨pB,0,none⟩) (xF h.typ)).trans h.c0
 c1:=(hb.cell (p:=⟨pB,1,none⟩) (xF h.typ)).trans h.c1
 c2:=(hb.cell (p:=⟨pB,2,none⟩) (xF h.typ)).trans h.c2
 f1:=(hb.frozen (p:=⟨pB,1,none⟩) (xF h.typ)).trans h.f1
 own:=qB h.own hb
 len:=h.len
 each i hi:=qB (h.each i hi) hb
theorem qY{g:Nat}(h:w.ownsRow B e s v n xs)(hg:v.ownBlock=some g):∃cur,w.heap[g]?=some (.cells cur e (0,0)):=by
 rcases h.2 with ⟨rfl,_⟩|⟨g',cap,cur,rfl,_,hc,_⟩
 ·simp[Value.ownBlock]at hg
 ·simp only[Value.ownBlock,Option.some.injEq]at hg;subst hg;exact⟨cur,hc⟩
theorem PR.step{w3:World}{vr':Value}{o:Obj}(h:PR W B pB u bel vr vs rows)
 (hv:W.ownsRow B 3 1 v l.length (l.map (Value.int .i64))) (hown:w3.ownsRow B 24 1 vr' (rows.length+1) (vs++[v])) (hg:(W.alloc o).grownBy w3 vr.ownBlock):
 PR (w3.setCell ⟨pB,1,none⟩ vr') B pB u bel vr' (vs++[v]) (rows++[l]):=by
 have hsz:(W.alloc o).heap.size=W.heap.size+1:=by simp
 have hk:∀b,b < W.heap.size->some b≠vr.ownBlock->w3.heap[b]?=W.heap[b]?:=fun b hb hne=>(hg.block b (by omega) hne).trans (Below.heap_alloc _ _ _ hb);have hp3:w3.heap[pB]?=W.heap[pB]?:=hk pB (xF h.typ) (own_ne h.own h.typ (by decide));have ht3:∃cur,w3.heap[pB]?=some (.cells cur 121 (0,0)):=by rw[hp3];exact h.typ
 have hog:Og pB w3 (w3.setCell ⟨pB,1,none⟩ vr'):=(Og.refl _ _).set _ _
 have hint:∀{x:Value} {k:Nat} {xs:List Value},W.ownsRow B 3 1 x k xs->(w3.setCell ⟨pB,1,none⟩ vr').ownsRow B 3 1 x k xs:=fun hx=>
  Zg (qC hx (w':=w3) (fun g hgx=>hk g ((hx.lt g hgx).2) (fun e=>own_ne h.own (qY hx hgx) (by decide) e))) hog ht3 (by decide)
 refine⟨?_,?_,?_,?_,?_,?_,?_,fun i hi=>?_⟩
 ·obtain⟨cur,hc⟩:=ht3;exact⟨_,bG _ _ _ _ _ _ hc⟩
 ·exact(bC _ _ _ _ (by simp)).trans ((bE (w:=W) (a:=⟨pB,0,none⟩) hp3).trans h.c0)
 ·exact bF _ _ _ ((bE (w:=W) (a:=⟨pB,1,none⟩) hp3).trans h.c1)
 ·exact(bC _ _ _ _ (by simp)).trans ((bE (w:=W) (a:=⟨pB,2,none⟩) hp3).trans h.c2)
 ·rw[fS];exact(World.frozen?_of_block (w:=W) (a:=⟨pB,1,none⟩) hp3).trans h.f1
 ·rw[lA];exact Zg hown hog ht3 (by decide)
 ·rw[lA,lA,h.len];rfl
 ·rw[lA]at hi;simp only[List.length_cons,List.length_nil]at hi;by_cases e:i < rows.length
  ·have h1:(rows++[l]).getD i []=rows.getD i []:=by rw[gD,aL e,<-gD]
   have h2:(vs++[v]).getD i undef=vs.getD i undef:=by rw[gD,aL (by rw[h.len];exact e),<-gD]
   rw[h1,h2];exact hint (h.each i e)
  ·obtain rfl:i=rows.length:=by omega
   have h1:(rows++[l]).getD rows.length []=l:=by rw[gD,bN (nR _)];simp
   have h2:(vs++[v]).getD rows.length undef=v:=by rw[gD,bN (by rw[h.len];exact nR _),h.len];simp
   rw[h1,h2];exact hint hv
def zB(bag:List Int)(es:List (List Int)):List (List Int):=bag.map fun x=>plc (fun i=>decide (x∈es.getD i [])) es.length
theorem Xe(bag:List Int)(es:List (List Int))(k:Nat)(h:k < bag.length):zB (bag.take (k+1)) es=zB (bag.take k) es++[plc (fun i=>decide (bag.getD k 0∈es.getD i [])) es.length]:=by
 unfold zB;rw[tA,gE h,gD (l:=bag),gE h];simp only[Option.toList_some,List.map_append,List.map_cons,List.map_nil,Option.getD_some]
theorem Yp(bag:List Int)(es:List (List Int)):(zB bag es).length=bag.length:=by simp[zB]
theorem PR.other(h:PR W B pB u bel vr vs rows)(ht:∃cur,W.heap[c]?=some (.cells cur 121 (0,0)))(hc:c≠pB):PR (W.setCell ⟨c,o,none⟩ v) B pB u bel vr vs rows:=by
 have hog:Og c W (W.setCell ⟨c,o,none⟩ v):=(Og.refl _ _).set _ _;have hp:(W.setCell ⟨c,o,none⟩ v).heap[pB]?=W.heap[pB]?:=hog.block pB (Ne.symm hc)
 exact⟨by rw[hp];exact h.typ,(bE (w:=W) (a:=⟨pB,0,none⟩) hp).trans h.c0,(bE (w:=W) (a:=⟨pB,1,none⟩) hp).trans h.c1,(bE (w:=W) (a:=⟨pB,2,none⟩) hp).trans h.c2,(World.frozen?_of_block (w:=W) (a:=⟨pB,1,none⟩) hp).trans h.f1,
  Zg h.own hog ht (by decide),h.len,fun i hi=>Zg (h.each i hi) hog ht (by decide)⟩
theorem ql(h:∃cur,W.heap[c]?=some (.cells cur e (0,0))):∃cur,(W.setCell ⟨c,o,none⟩ v).heap[c]?=some (.cells cur e (0,0)):=by
 obtain⟨cur,h⟩:=h;exact⟨_,bG _ _ _ _ _ _ h⟩
theorem qF{B':Nat}(h:w.ownsRow B e s v n xs)(hB:B'<=B):w.ownsRow B' e s v n xs:=by
 obtain⟨h1,h2⟩:=h;refine⟨h1,?_⟩;rcases h2 with h2|⟨g,cap,cur,hv,hg,hr⟩
 ·exact Or.inl h2
 ·exact Or.inr ⟨g,cap,cur,hv,bK hB hg,hr⟩
theorem kl(w:World)(vb ve:Value)(bag:List Int)(es:List (List Int))(hb:IS w vb bag)(h:ISS w ve es)(hlb:bag.length<=1000)(hl:qQ es):
 Cl 96 #[vb,ve] w fun e w'=>∃vr vs,e=.returned (.agg #[.int .i64 es.length,vr,.bool true])/\PR w' w.heap.size (w.heap.size+1) es.length true vr vs (zB bag es)/\Bl w w':=by
 obtain⟨i0,hi,hz0,hz1,hz2⟩:=info_parts Tryz.infoIS;have HE:=hid h;have HL:=hid hl;obtain⟨a,cap,rfl,hc⟩:=hb;obtain⟨a',cap',rfl,-⟩:=h;obtain⟨n,hn⟩:∃n,n=bag.length:=⟨_,rfl⟩;have HN:=hid hn;have HC:=hid hc;rw[<-hn]at HC hlb ⊢;clear hc hn hl
 have hP0:PR ((w.alloc (.cells #[.int .i64 0,.slice none 0 0,.bool false] 121)).alloc (.cells #[.int .i64 es.length,.slice none 0 0,.bool true] 121)) w.heap.size (w.heap.size+1) es.length true (.slice none 0 0) [] []:=
  ⟨⟨_,by have:=heap_alloc_new (w.alloc (.cells #[.int .i64 0,.slice none 0 0,.bool false] 121)) (.cells #[.int .i64 es.length,.slice none 0 0,.bool true] 121);simpa using this⟩,by simp[go_sem],by simp[go_sem],by simp[go_sem],by simp[go_sem],oN _ _ _ _,rfl,fun i hi=>by simp at hi⟩
 have HP0:=hid hP0;clear hP0;go_enter Tryz.func96,Tryz.ntmps96
 go_wp2;go_loopw [13] (fun t wr=>∃k:Nat,k<=n/\t=.int .i64 k/\w.heap.size+1 < wr.heap.size/\Hid (Bl w wr/\wr.heap[w.heap.size]?=some (.cells #[.int .i64 0,.slice none 0 0,.bool false] 121 (0,0))/\∃vr vs,PR wr w.heap.size (w.heap.size+1) es.length true vr vs (zB (bag.take k) es))) (fun t _=>n - (intOf t).toNat)
 case atStart=>exact⟨0,nZ _,rfl,by simp,hid ⟨((bI _ _).alloc (nR _) _).alloc (by simp) _,by rw[Below.heap_alloc _ _ _ (by simp)];exact heap_alloc_new _ _,_,_,HP0.out⟩⟩
 case round=>
  clear HP0;obtain⟨k,hk,rfl,hsz,hH⟩:=hrel;obtain⟨hnx,hr0,vr,vs,hPR⟩:=hH.out;by_cases hkn:k < n
  ·have i1:(k:Int) < (n:Int):=by omega
   rcases HC.out with h0|⟨b,o,rfl,hcell⟩
   ·omega
   ·have d0:=hcell k hkn;have c1:wr.cell? ⟨b,o+k,none⟩=some (.int .i64 (bag.getD k 0)):=(hnx.cell (p:=⟨b,o+k,none⟩) (bL w _ d0)).trans d0;have HEr:=hid (HE.out.below hnx);have hkl:k < bag.length:=by rw[<-HN.out];exact hkn
    have HSU:=hid (Xe bag es k hkl);have hrl:(zB (bag.take k) es).length=k:=by rw[Yp,bQ];omega
    have c5:=hPR.c1;have f5:=hPR.f1;have hown:=hPR.own;rw[hrl]at hown;have HPR:=hid hPR;have HNX:=hid hnx;have HRR:=hid hr0;have hns:=hnx.size;clear hH hPR hnx hcell d0 hr0;obtain⟨pl,hpl⟩:∃q,q=plc (fun i=>decide (bag.getD k 0∈es.getD i [])) es.length:=⟨_,rfl⟩;have K1:Hid (∀W,ISS W (.slice a' es.length cap') es->Cl 79 #[.int .i64 (bag.getD k 0),.slice a' es.length cap'] W fun e w'=>∃v,e=.returned v/\w'.ownsRow W.heap.size 3 1 v pl.length (pl.map (Value.int .i64))/\Bl W w'):=hid (fun W hW=>by rw[hpl];exact xk W _ _ es hW HL.out);rw[<-hpl]at HSU;clear hpl;generalize bag.getD k 0=x at *;go_wp2_with fail
    go_region_law (first
     |(go_simp;go_at_call 79;refine(K1.out wr.drew HEr.out).mono ?_;rintro e w2 ⟨v,rfl,hv,hb2'⟩;have hb2:Bl wr w2:=(bI _ _).drew.trans hb2';obtain⟨av,cv,rfl,-⟩:=qW hv;have c6:w2.cell? ⟨w.heap.size+1,1,none⟩=some vr:=(hb2.cell (p:=⟨w.heap.size+1,1,none⟩) hsz).trans c5;have hsz2:w.heap.size+1 < w2.heap.size:=bM hsz hb2.size;have c8:∀o',(w2.alloc o').cell? ⟨w.heap.size+1,1,none⟩=some vr:=fun o'=>(World.cell?_alloc_past _ _ _ hsz2).trans c6)
     |(refine step_append_lies _ (by rfl) _ _ _ (by rfl) w.heap.size 24 i0 (.slice none 0 0) 1 24 Tryz.underlying23 hi hz0 hz1 hz2 rfl (by decide) vr k vs (by rfl) ((qB hown hb2).alloc _) ⟨w2.heap.size,0,none⟩ 1 1 [.slice av pl.length cv] (by rfl) (by rfl) (qH _ _ _) (fun u hu=>by simp at hu;subst hu;rfl) (by decide) (by unfold maxLen;omega) (by omega) (by have:=hb2.size;simp at this ⊢;omega) (w2.heap.size+1) (by simp) ?_;intro g3 cp3 w3 hown3 hgrow hat3 hlt3;have hp3:w3.heap[w.heap.size+1]?=w2.heap[w.heap.size+1]?:=(hgrow.block _ (by simp;omega) (own_ne (qB hown hb2) (HPR.out.below hb2).typ (by decide))).trans (Below.heap_alloc _ _ _ hsz2);have c7:w3.cell? ⟨w.heap.size+1,1,none⟩=some vr:=(bE (w:=w2) (a:=⟨w.heap.size+1,1,none⟩) hp3).trans c6;have f7:w3.frozen? ⟨w.heap.size+1,1,none⟩=false:=(World.frozen?_of_block (w:=w2) (a:=⟨w.heap.size+1,1,none⟩) hp3).trans (HPR.out.below hb2).f1))
    all_goals
     have hR2:w2.heap[w.heap.size]?=some (.cells #[.int .i64 0,.slice none 0 0,.bool false] 121 (0,0)):=(hb2.block _ (by omega)).trans HRR.out
     have hR3:w3.heap[w.heap.size]?=some (.cells #[.int .i64 0,.slice none 0 0,.bool false] 121 (0,0)):=((hgrow.block _ (by simp;omega) (own_ne (qB hown hb2) ⟨_,hR2⟩ (by decide))).trans (Below.heap_alloc _ _ _ (by omega))).trans hR2
     have hB3:Bl w w3:=zG (by omega) (qB hown hb2) (bt HNX.out hb2) hgrow
     have hP3:=(HPR.out.below hb2).step (qF hv hns) (by rw[hrl];exact hown3) hgrow
     have HF:Hid (Bl w (w3.setCell ⟨w.heap.size+1,1,none⟩ (.slice (some ⟨g3,0,none⟩) (k+1) cp3))/\(w3.setCell ⟨w.heap.size+1,1,none⟩ (.slice (some ⟨g3,0,none⟩) (k+1) cp3)).heap[w.heap.size]?=some (.cells #[.int .i64 0,.slice none 0 0,.bool false] 121 (0,0))/\∃vr vs,PR (w3.setCell ⟨w.heap.size+1,1,none⟩ (.slice (some ⟨g3,0,none⟩) (k+1) cp3)) w.heap.size (w.heap.size+1) es.length true vr vs (zB (bag.take (k+1)) es)):=
      hid ⟨hB3.setCell (by show w.heap.size<=w.heap.size+1;omega) _,(bD _ _ _ _ (by show w.heap.size≠w.heap.size+1;omega)).trans hR3,_,_,by rw[HSU.out];exact hP3⟩
     have hs3:w.heap.size+1 < w3.heap.size:=by have:=hgrow.size;simp at this;omega
     clear hR2 hR3 hB3 hP3 hgrow hown3 hv hb2 hb2'
     go_wp2
     go_roundw
     case rel=>exact⟨k+1,by omega,by go_num,by simpa[World.setCell]using hs3,HF⟩
     case measure=>simp[intOf];omega
  ·obtain rfl:k=n:=by omega
   have i1:¬((k:Int) < (k:Int)):=by omega
   rw[HN.out,tL]at hPR;have c0:=hPR.c0;have c1:=hPR.c1;have c2:=hPR.c2;have z0:wr.cell? ⟨w.heap.size,0,none⟩=some (.int .i64 0):=by rw[cell_of_row _ _ _ _ _ _ hr0];rfl
   have z1:wr.cell? ⟨w.heap.size,1,none⟩=some (.slice none 0 0):=by rw[cell_of_row _ _ _ _ _ _ hr0];rfl
   have z2:wr.cell? ⟨w.heap.size,2,none⟩=some (.bool false):=by rw[cell_of_row _ _ _ _ _ _ hr0];rfl
   have y0:wr.frozen? ⟨w.heap.size,0,none⟩=false:=frozen_of_row _ _ _ _ _ hr0;have y1:wr.frozen? ⟨w.heap.size,1,none⟩=false:=frozen_of_row _ _ _ _ _ hr0;have y2:wr.frozen? ⟨w.heap.size,2,none⟩=false:=frozen_of_row _ _ _ _ _ hr0
   obtain⟨av,cv,hvr⟩:∃av cv,vr=.slice av (zB bag es).length cv:=by
    rcases hPR.own.2 with ⟨rfl,h2⟩|⟨g,cp,cur,rfl,-⟩
    ·exact⟨none,0,by rw[h2]⟩
    ·exact⟨_,_,rfl⟩
   subst hvr;have HPR:=hid hPR;have HNX:=hid hnx;have HR0:=hid hr0;clear hH hPR hnx hr0;generalize (zB bag es).length=m at *;go_wp2
   refine bodyPost_ret (v:=.agg #[.int .i64 es.length,.slice av m cv,.bool true]) (by simp[results,Tryz.results96,go_sem,z0,z1,z2]) rfl
    ⟨_,rfl,⟨_,((HPR.out.other ⟨_,HR0.out⟩ (by omega)).other (ql ⟨_,HR0.out⟩) (by omega)).other (ql (ql ⟨_,HR0.out⟩)) (by omega)⟩,((HNX.out.setCell (nR _) _).setCell (nR _) _).setCell (nR _) _⟩
def zS(bag:List Int)(es:List (List Int)):List (List Int):=es.map fun e=>plc (fun i=>decide (bag.getD i 0∈e)) bag.length
theorem Yq(bag:List Int)(es:List (List Int))(k:Nat)(h:k < es.length):zS bag (es.take (k+1))=zS bag (es.take k)++[plc (fun i=>decide (bag.getD i 0∈es.getD k [])) bag.length]:=by
 unfold zS;rw[tA,gE h,gD (l:=es),gE h];simp only[Option.toList_some,List.map_append,List.map_cons,List.map_nil,Option.getD_some]
theorem US(bag:List Int)(es:List (List Int)):(zS bag es).length=es.length:=by simp[zS]
theorem jo(w:World)(vb ve:Value)(bag:List Int)(es:List (List Int))(hb:IS w vb bag)(h:ISS w ve es)(hlb:bag.length<=1000)(hl:qQ es)(hle:es.length<=1000):
 Cl 97 #[vb,ve] w fun e w'=>∃vr vs,e=.returned (.agg #[.int .i64 bag.length,vr,.bool false])/\PR w' w.heap.size (w.heap.size+1) bag.length false vr vs (zS bag es)/\Bl w w':=by
 obtain⟨i0,hi,hz0,hz1,hz2⟩:=info_parts Tryz.infoIS;have HE:=hid hb;have HL:=hid hl.2;obtain⟨a,cap,rfl,hc⟩:=h;obtain⟨a',cap',rfl,-⟩:=hb;obtain⟨n,hn⟩:∃n,n=es.length:=⟨_,rfl⟩;have HN:=hid hn;have HC:=hid hc;rw[<-hn]at HC hle ⊢;clear hc hn hl
 have hP0:PR ((w.alloc (.cells #[.int .i64 0,.slice none 0 0,.bool false] 121)).alloc (.cells #[.int .i64 bag.length,.slice none 0 0,.bool false] 121)) w.heap.size (w.heap.size+1) bag.length false (.slice none 0 0) [] []:=
  ⟨⟨_,by have:=heap_alloc_new (w.alloc (.cells #[.int .i64 0,.slice none 0 0,.bool false] 121)) (.cells #[.int .i64 bag.length,.slice none 0 0,.bool false] 121);simpa using this⟩,by simp[go_sem],by simp[go_sem],by simp[go_sem],by simp[go_sem],oN _ _ _ _,rfl,fun i hi=>by simp at hi⟩
 have HP0:=hid hP0;clear hP0;go_enter Tryz.func97,Tryz.ntmps97
 go_wp2;go_loopw [13] (fun t wr=>∃k:Nat,k<=n/\t=.int .i64 k/\w.heap.size+1 < wr.heap.size/\Hid (Bl w wr/\wr.heap[w.heap.size]?=some (.cells #[.int .i64 0,.slice none 0 0,.bool false] 121 (0,0))/\∃vr vs,PR wr w.heap.size (w.heap.size+1) bag.length false vr vs (zS bag (es.take k)))) (fun t _=>n - (intOf t).toNat)
 case atStart=>exact⟨0,nZ _,rfl,by simp,hid ⟨((bI _ _).alloc (nR _) _).alloc (by simp) _,by rw[Below.heap_alloc _ _ _ (by simp)];exact heap_alloc_new _ _,_,_,HP0.out⟩⟩
 case round=>
  clear HP0;obtain⟨k,hk,rfl,hsz,hH⟩:=hrel;obtain⟨hnx,hr0,vr,vs,hPR⟩:=hH.out;by_cases hkn:k < n
  ·have i1:(k:Int) < (n:Int):=by omega
   rcases HC.out with h0|⟨b,o,rfl,hcell⟩
   ·omega
   ·obtain⟨ue,d0,hue⟩:=hcell k hkn;have c1:wr.cell? ⟨b,o+k,none⟩=some ue:=(hnx.cell (p:=⟨b,o+k,none⟩) (bL w _ d0)).trans d0;have HUE:=hid (hue.below hnx);obtain⟨ae,ce,rfl,-⟩:=hue;have HEr:=hid (HE.out.below hnx);have hkl:k < es.length:=by rw[<-HN.out];exact hkn
    have HSU:=hid (Yq bag es k hkl);have hrl:(zS bag (es.take k)).length=k:=by rw[US,bQ];omega
    have c5:=hPR.c1;have f5:=hPR.f1;have hown:=hPR.own;rw[hrl]at hown;have HPR:=hid hPR;have HNX:=hid hnx;have HRR:=hid hr0;have hns:=hnx.size;clear hH hPR hnx hcell d0 hr0;obtain⟨pl,hpl⟩:∃q,q=plc (fun i=>decide (bag.getD i 0∈es.getD k [])) bag.length:=⟨_,rfl⟩;have K1:Hid (∀W,IS W (.slice a' bag.length cap') bag->IS W (.slice ae (es.getD k []).length ce) (es.getD k [])->Cl 58 #[.slice a' bag.length cap',.slice ae (es.getD k []).length ce] W fun e w'=>∃v,e=.returned v/\w'.ownsRow W.heap.size 3 1 v pl.length (pl.map (Value.int .i64))/\Bl W w'):=hid (fun W hW hW'=>by rw[hpl];exact xR W _ _ bag (es.getD k []) hW hW' (by omega) (HL.out k));rw[<-hpl]at HSU;clear hpl;generalize es.getD k []=ed at *;generalize ed.length=edl at *;go_wp2_with fail
    go_region_law (first
     |(go_simp;go_at_call 58;refine(K1.out wr.drew HEr.out HUE.out).mono ?_;rintro e w2 ⟨v,rfl,hv,hb2'⟩;have hb2:Bl wr w2:=(bI _ _).drew.trans hb2';obtain⟨av,cv,rfl,-⟩:=qW hv;have c6:w2.cell? ⟨w.heap.size+1,1,none⟩=some vr:=(hb2.cell (p:=⟨w.heap.size+1,1,none⟩) hsz).trans c5;have hsz2:w.heap.size+1 < w2.heap.size:=bM hsz hb2.size;have c8:∀o',(w2.alloc o').cell? ⟨w.heap.size+1,1,none⟩=some vr:=fun o'=>(World.cell?_alloc_past _ _ _ hsz2).trans c6)
     |(refine step_append_lies _ (by rfl) _ _ _ (by rfl) w.heap.size 24 i0 (.slice none 0 0) 1 24 Tryz.underlying23 hi hz0 hz1 hz2 rfl (by decide) vr k vs (by rfl) ((qB hown hb2).alloc _) ⟨w2.heap.size,0,none⟩ 1 1 [.slice av pl.length cv] (by rfl) (by rfl) (qH _ _ _) (fun u hu=>by simp at hu;subst hu;rfl) (by decide) (by unfold maxLen;omega) (by omega) (by have:=hb2.size;simp at this ⊢;omega) (w2.heap.size+1) (by simp) ?_;intro g3 cp3 w3 hown3 hgrow hat3 hlt3;have hp3:w3.heap[w.heap.size+1]?=w2.heap[w.heap.size+1]?:=(hgrow.block _ (by simp;omega) (own_ne (qB hown hb2) (HPR.out.below hb2).typ (by decide))).trans (Below.heap_alloc _ _ _ hsz2);have c7:w3.cell? ⟨w.heap.size+1,1,none⟩=some vr:=(bE (w:=w2) (a:=⟨w.heap.size+1,1,none⟩) hp3).trans c6;have f7:w3.frozen? ⟨w.heap.size+1,1,none⟩=false:=(World.frozen?_of_block (w:=w2) (a:=⟨w.heap.size+1,1,none⟩) hp3).trans (HPR.out.below hb2).f1))
    all_goals
     have hR2:w2.heap[w.heap.size]?=some (.cells #[.int .i64 0,.slice none 0 0,.bool false] 121 (0,0)):=(hb2.block _ (by omega)).trans HRR.out
     have hR3:w3.heap[w.heap.size]?=some (.cells #[.int .i64 0,.slice none 0 0,.bool false] 121 (0,0)):=((hgrow.block _ (by simp;omega) (own_ne (qB hown hb2) ⟨_,hR2⟩ (by decide))).trans (Below.heap_alloc _ _ _ (by omega))).trans hR2
     have hB3:Bl w w3:=zG (by omega) (qB hown hb2) (bt HNX.out hb2) hgrow
     have hP3:=(HPR.out.below hb2).step (qF hv hns) (by rw[hrl];exact hown3) hgrow
     have HF:Hid (Bl w (w3.setCell ⟨w.heap.size+1,1,none⟩ (.slice (some ⟨g3,0,none⟩) (k+1) cp3))/\(w3.setCell ⟨w.heap.size+1,1,none⟩ (.slice (some ⟨g3,0,none⟩) (k+1) cp3)).heap[w.heap.size]?=some (.cells #[.int .i64 0,.slice none 0 0,.bool false] 121 (0,0))/\∃vr vs,PR (w3.setCell ⟨w.heap.size+1,1,none⟩ (.slice (some ⟨g3,0,none⟩) (k+1) cp3)) w.heap.size (w.heap.size+1) bag.length false vr vs (zS bag (es.take (k+1)))):=
      hid ⟨hB3.setCell (by show w.heap.size<=w.heap.size+1;omega) _,(bD _ _ _ _ (by show w.heap.size≠w.heap.size+1;omega)).trans hR3,_,_,by rw[HSU.out];exact hP3⟩
     have hs3:w.heap.size+1 < w3.heap.size:=by have:=hgrow.size;simp at this;omega
     clear hR2 hR3 hB3 hP3 hgrow hown3 hv hb2 hb2'
     go_wp2
     go_roundw
     case rel=>exact⟨k+1,by omega,by go_num,by simpa[World.setCell]using hs3,HF⟩
     case measure=>simp[intOf];omega
  ·obtain rfl:k=n:=by omega
   have i1:¬((k:Int) < (k:Int)):=by omega
   rw[HN.out,tL]at hPR;have c0:=hPR.c0;have c1:=hPR.c1;have c2:=hPR.c2;have z0:wr.cell? ⟨w.heap.size,0,none⟩=some (.int .i64 0):=by rw[cell_of_row _ _ _ _ _ _ hr0];rfl
   have z1:wr.cell? ⟨w.heap.size,1,none⟩=some (.slice none 0 0):=by rw[cell_of_row _ _ _ _ _ _ hr0];rfl
   have z2:wr.cell? ⟨w.heap.size,2,none⟩=some (.bool false):=by rw[cell_of_row _ _ _ _ _ _ hr0];rfl
   have y0:wr.frozen? ⟨w.heap.size,0,none⟩=false:=frozen_of_row _ _ _ _ _ hr0;have y1:wr.frozen? ⟨w.heap.size,1,none⟩=false:=frozen_of_row _ _ _ _ _ hr0;have y2:wr.frozen? ⟨w.heap.size,2,none⟩=false:=frozen_of_row _ _ _ _ _ hr0
   obtain⟨av,cv,hvr⟩:∃av cv,vr=.slice av (zS bag es).length cv:=by
    rcases hPR.own.2 with ⟨rfl,h2⟩|⟨g,cp,cur,rfl,-⟩
    ·exact⟨none,0,by rw[h2]⟩
    ·exact⟨_,_,rfl⟩
   subst hvr;have HPR:=hid hPR;have HNX:=hid hnx;have HR0:=hid hr0;clear hH hPR hnx hr0;generalize (zS bag es).length=m at *;go_wp2
   refine bodyPost_ret (v:=.agg #[.int .i64 bag.length,.slice av m cv,.bool false]) (by simp[results,Tryz.results97,go_sem,z0,z1,z2]) rfl
    ⟨_,rfl,⟨_,((HPR.out.other ⟨_,HR0.out⟩ (by omega)).other (ql ⟨_,HR0.out⟩) (by omega)).other (ql (ql ⟨_,HR0.out⟩)) (by omega)⟩,((HNX.out.setCell (nR _) _).setCell (nR _) _).setCell (nR _) _⟩
def qEM(m:Nat->Bool):Value:=.agg #[.bool (m 0),.bool (m 1),.bool (m 2),.bool (m 3),.bool (m 4),.bool (m 5)]
def Q4(m:Nat->Bool):Array Value:=#[.bool (m 0),.bool (m 1),.bool (m 2),.bool (m 3),.bool (m 4),.bool (m 5)]
theorem qCK(m:Nat->Bool){v:Nat}(h:v < 6):(Q4 m)[v]?=some (.bool (m v)):=by
 obtain rfl|rfl|rfl|rfl|rfl|rfl:v=0∨v=1∨v=2∨v=3∨v=4∨v=5:=by omega
 all_goals rfl
theorem Yh(m:Nat->Bool){v:Nat}(h:v < 6)(w:World):(Sem.run Tryz.prog (Instr.index 126 (.agg #[.bool (m 0),.bool (m 1),.bool (m 2),.bool (m 3),.bool (m 4),.bool (m 5)]) (.int .i64 v)) w)=.ok (.bool (m v)) w:=by
 obtain rfl|rfl|rfl|rfl|rfl|rfl:v=0∨v=1∨v=2∨v=3∨v=4∨v=5:=by omega
 all_goals kernel_rfl
theorem qAC(w:World)(m:Nat->Bool):
 Cl 105 #[qEM m] w fun e w'=>∃v,e=.returned v/\w'.ownsRow w.heap.size 3 1 v (plc m 6).length ((plc m 6).map (Value.int .i64))/\Bl w w':=by
 obtain⟨i0,hi,hz0,hz1,hz2⟩:=info_parts Tryz.infoInt;have HX:Hid (∀(v:Nat) (W:World),v < 6->(Sem.run Tryz.prog (Instr.index 126 (.agg #[.bool (m 0),.bool (m 1),.bool (m 2),.bool (m 3),.bool (m 4),.bool (m 5)]) (.int .i64 v)) W)=.ok (.bool (m v)) W):=hid fun v W h=>Yh m h W
 have HS0:Hid (((w.alloc (.cells #[.bool (m 0),.bool (m 1),.bool (m 2),.bool (m 3),.bool (m 4),.bool (m 5)] 126)).alloc (.cells #[] 3)).ownsRow w.heap.size 3 1 (.slice (some ⟨w.heap.size+1,0,none⟩) 0 0) (plc m 0).length ((plc m 0).map (Value.int .i64))):=hid (by
  have h:=oM (w.alloc (.cells #[.bool (m 0),.bool (m 1),.bool (m 2),.bool (m 3),.bool (m 4),.bool (m 5)] 126)) (e:=3) (size:=1) #[] 0 (nR _) (by decide) rfl;rw[World.size_alloc]at h;exact qF h (Nat.le_succ _))
 unfold qEM;go_enter Tryz.func105,Tryz.ntmps105
 go_wp2;go_loopw [3,8] (fun u t wr=>∃v:Nat,v<=6/\t=.int .i64 v/\wr.ownsRow w.heap.size 3 1 u (plc m v).length ((plc m v).map (Value.int .i64))/\Bl w wr) (fun _ t _=>6 - (intOf t).toNat)
 case atStart=>exact⟨0,nZ _,rfl,HS0.out,((bI _ _).alloc (nR _) _).alloc (by simp) _⟩
 case round=>
  obtain⟨v,hv,rfl,hown,hnx⟩:=hrel;have hple:=xd m v;have hns:=hnx.size;by_cases hvk:v < 6
  ·have i1:(v:Int) < 6:=by omega
   have c1:=HX.out v wr hvk;cases hR:m v
   ·rw[hR]at c1;have e1:=hid (uM m v hR);clear hR;go_wp2_with fail
    go_roundw
    case rel=>exact⟨v+1,by omega,by go_num,by rw[e1.out];exact hown,hnx⟩
    case measure=>simp[intOf];omega
   ·rw[hR]at c1;have e1:=hid (jH m v hR);clear hR
    go_wp2_with (first
     |(at_builtin;refine wpList_append_own _ rfl _ _ 24 rfl w.heap.size 3 i0 (.int .i64 0) 1 8 Tryz.underlying24 hi hz0 hz1 hz2 rfl (by decide) _ _ _ rfl (hown.alloc _) ⟨wr.heap.size,0,none⟩ 1 1 [.int .i64 v] rfl rfl ?c1 ?c2 ?c3 ?c4 ?c5 ?_)
     |fail)
    case c1=>
     intro j u hj;match j,hj with
     |0,hj=>simp at hj;subst hj;simp[Addr.add]
    case c2=>intro u hu;simp at hu;subst hu;rfl
    case c3=>unfold maxLen;omega
    case c4=>omega
    case c5=>simp;omega
    intro v' w1 hown' hgrow _;have hb:=jg hns hown hnx hgrow
    have hown2:w1.ownsRow w.heap.size 3 1 v' (plc m (v+1)).length ((plc m (v+1)).map (Value.int .i64)):=by
     rw[e1.out];simpa using hown'
    clear hown' hgrow hown;go_wp2;go_roundw
    case rel=>exact⟨v+1,by omega,by go_num,hown2,hb⟩
    case measure=>simp[intOf];omega
  ·obtain rfl:v=6:=by omega
   go_wp2;go_ret;exact⟨_,rfl,hown,hnx⟩
end Go.Proofs.YtjbpgdpciinlcaaGreat
