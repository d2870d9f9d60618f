import Derived.Test.YtjbpgdpciinlcaaGreatBg27
set_option maxHeartbeats 40000000
set_option maxRecDepth 1000000
namespace Go.Proofs.YtjbpgdpciinlcaaGreat
open Go.RowKit
variable {es:List (List Int)}{a b bag:List Int}{B c i j m n p r:Nat}{x y:Nat->Rat}{v:Value}{w w':World}
def RwIs(w:World)(g:Nat)(t:TypeId)(n:Nat)(f:Nat->Value):Prop:=
 ∃cur:Array Value,w.heap[g]?=some (.cells cur t (0,0))/\∀i,i < n->cur[i]?=some (f i)
section
variable {w w':World} {g h n:Nat} {t t':TypeId} {f f':Nat->Value}
theorem RwIs.cell(H:RwIs w g t n f)(hi:i < n):w.cell? ⟨g,i,none⟩=some (f i):=by
 obtain⟨c,hb,hc⟩:=H;simp[World.cell?,hb,hc i hi]
theorem RwIs.free(H:RwIs w g t n f)(i:Nat):w.frozen? ⟨g,i,none⟩=false:=by
 obtain⟨c,hb,_⟩:=H;simp[World.frozen?,hb]
theorem RwIs.lt(H:RwIs w g t n f):g < w.heap.size:=by
 obtain⟨c,hb,_⟩:=H;obtain⟨hlt,_⟩:=Array.getElem?_eq_some_iff.1 hb;exact hlt
theorem RwIs.congr(H:RwIs w g t n f)(e:∀i,i < n->f i=f' i):RwIs w g t n f':=by
 obtain⟨c,hb,hc⟩:=H;exact⟨c,hb,fun i hi=>by rw[hc i hi,e i hi]⟩
theorem RwIs.of_block(H:RwIs w g t n f)(e:w'.heap[g]?=w.heap[g]?):RwIs w' g t n f:=by
 obtain⟨c,hb,hc⟩:=H;exact⟨c,e.trans hb,hc⟩
theorem RwIs.below(H:RwIs w g t n f)(hb:Bl w w'):RwIs w' g t n f:=H.of_block (hb.block g H.lt)
theorem RwIs.set(H:RwIs w g t n f)(i:Nat)(v:Value):RwIs (w.setCell ⟨g,i,none⟩ v) g t n (fun j=>if j=i then v else f j):=by
 obtain⟨c,hb,hc⟩:=H;refine⟨c.setIfInBounds i v,?_,fun j hj=>?_⟩
 ·simp[World.setCell,Array.getElem?_modify,hb]
 ·have hjc:j < c.size:=by
   have:=hc j hj;exact(Array.getElem?_eq_some_iff.1 this).1
  rw[Array.getElem?_setIfInBounds];by_cases e:j=i
  ·subst e;simp[hjc]
  ·rw[if_neg (fun h=>e h.symm)];show c[j]?=some (if j=i then v else f j);rw[if_neg e];exact hc j hj
theorem RwIs.other(H:RwIs w g t n f)(hne:g≠h)(i:Nat)(v:Value):RwIs (w.setCell ⟨h,i,none⟩ v) g t n f:=H.of_block (bD _ _ _ _ hne)
theorem RwIs.ne(H:RwIs w g t n f)(K:RwIs w h t' m f')(ht:t≠t'):g≠h:=by
 rintro rfl;obtain⟨c,hb,_⟩:=H;obtain⟨c',hb',_⟩:=K;rw[hb]at hb';simp only[Option.some.injEq,Obj.cells.injEq]at hb';exact ht hb'.2.1
end
def XZ(r:Nat->Rat):Nat->Value:=fun k=>if k % 2=0 then .int .i64 (r (k / 2)).num else .int .i64 (r (k / 2)).den
def RowAt(w:World)(g n:Nat)(r:Nat->Rat):Prop:=RwIs w g 37 ((n+1)*2) (XZ r)
section
variable {w w':World} {g h n:Nat} {r:Nat->Rat}
theorem RowAt.num(H:RowAt w g n r)(hj:j<=n):w.cell? ⟨g,j*2,none⟩=some (.int .i64 (r j).num):=by
 rw[RwIs.cell H (by omega)];unfold XZ;rw[if_pos (by omega),show j*2 / 2=j by omega]
theorem RowAt.den(H:RowAt w g n r)(hj:j<=n):w.cell? ⟨g,j*2+1,none⟩=some (.int .i64 (r j).den):=by
 rw[RwIs.cell H (by omega)];unfold XZ;rw[if_neg (by omega),show(j*2+1) / 2=j by omega]
theorem RowAt.set(H:RowAt w g n r)(j:Nat)(q:Rat):RowAt ((w.setCell ⟨g,j*2,none⟩ (.int .i64 q.num)).setCell ⟨g,j*2+1,none⟩ (.int .i64 q.den)) g n (fun i=>if i=j then q else r i):=by
 refine RwIs.congr (RwIs.set (RwIs.set H (j*2) _) (j*2+1) _) (fun k hk=>?_);unfold XZ;show _=if k % 2=0 then Value.int IntKind.i64 (if k / 2=j then q else r (k / 2)).num else Value.int IntKind.i64 (if k / 2=j then q else r (k / 2)).den
 by_cases e1:k=j*2+1
 ·rw[if_pos e1,if_neg (by omega),if_pos (by omega)]
 ·rw[if_neg e1];by_cases e2:k=j*2
  ·rw[if_pos e2,if_pos (by omega),if_pos (by omega)]
  ·rw[if_neg e2,if_neg (show ¬k / 2=j by omega)]
theorem RowAt.other(H:RowAt w g n r)(hne:g≠h)(i k:Nat)(v u:Value):RowAt ((w.setCell ⟨h,i,none⟩ v).setCell ⟨h,k,none⟩ u) g n r:=RwIs.other (RwIs.other H hne i v) hne k u
theorem RowAt.congr{r':Nat->Rat}(H:RowAt w g n r)(e:∀j,j<=n->r j=r' j):RowAt w g n r':=by
 refine RwIs.congr H (fun k hk=>?_);unfold XZ;rw[e (k / 2) (by omega)]
theorem qEL(k:Nat):∀j,j < k->(zs k)[j*2]?=some (.int .i64 0)/\(zs k)[j*2+1]?=some (.int .i64 1):=by
 induction k with
 |zero=>intro j hj;omega
 |succ k ih=>
  intro j hj;have hl:(zs k).length=k*2:=by simp[zs]
  rw[J8];by_cases e:j < k
  ·rw[aL (by omega),aL (by omega)];exact ih j e
  ·obtain rfl:j=k:=by omega
   rw[bN (by omega),bN (by omega),hl];simp
theorem qCJ(H:w.ownsRow B 37 2 v (n+1) (zs (n+1))):∃g cap,v=.slice (some ⟨g,0,none⟩) (n+1) cap/\B<=g/\g < w.heap.size/\RowAt w g n (fun _=>0):=by
 rcases H.2 with ⟨_,h⟩|⟨g,cap,cur,rfl,hb,hc,hn,-,-,ht⟩
 ·omega
 ·have hr:RowAt w g n (fun _=>0):=by
   refine⟨cur,hc,fun i hi=>?_⟩
   have e:cur[i]?=(zs (n+1))[i]?:=by
    rw[<-ht,List.getElem?_take_of_lt hi,Array.getElem?_toList]
   rw[e];unfold XZ;obtain⟨h1,h2⟩:=qEL (n+1) (i / 2) (by omega);by_cases e2:i % 2=0
   ·rw[if_pos e2];rw[show i / 2*2=i by omega]at h1;exact h1
   ·rw[if_neg e2];rw[show i / 2*2+1=i by omega]at h2;exact h2
  exact⟨g,cap,rfl,hb,hr.lt,hr⟩
end
structure Mat(w:World)(B G n:Nat)(g cp:Nat->Nat)(R:Nat->Nat->Rat):Prop where
 top:RwIs w G 36 n (fun i=>.slice (some ⟨g i,0,none⟩) (n+1) (cp i))
 row:∀i,i < n->RowAt w (g i) n (R i)
 inj:∀i,i < n->∀k,k < n->g i=g k->i=k
 base:B<=G/\∀i,i < n->B<=g i
section
variable {w w':World} {B G n:Nat} {g cp:Nat->Nat} {R R':Nat->Nat->Rat}
theorem Mat.ne(H:Mat w B G n g cp R)(hi:i < n):g i≠G:=RwIs.ne (H.row i hi) H.top (by decide)
theorem Mat.below(H:Mat w B G n g cp R)(hb:Bl w w'):Mat w' B G n g cp R:=⟨H.top.below hb,fun i hi=>RwIs.below (H.row i hi) hb,H.inj,H.base⟩
theorem Mat.congr(H:Mat w B G n g cp R)(e:∀i,i < n->∀j,j<=n->R i j=R' i j):Mat w B G n g cp R':=⟨H.top,fun i hi=>(H.row i hi).congr (e i hi),H.inj,H.base⟩
theorem Mat.head(H:Mat w B G n g cp R)(hi:i < n):w.cell? ⟨G,i,none⟩=some (.slice (some ⟨g i,0,none⟩) (n+1) (cp i)):=H.top.cell hi
theorem Mat.swap(H:Mat w B G n g cp R)(hc:c < n)(hp:p < n):
 Mat ((w.setCell ⟨G,p,none⟩ (.slice (some ⟨g c,0,none⟩) (n+1) (cp c))).setCell ⟨G,c,none⟩ (.slice (some ⟨g p,0,none⟩) (n+1) (cp p))) B G n (Cov.swp g c p) (Cov.swp cp c p) (Cov.swpR R c p):=by
 refine⟨RwIs.congr ((H.top.set p _).set c _) (fun i _=>?_),fun i hi=>?_,fun i hi k hk e=>?_,H.base.1,fun i hi=>?_⟩
 ·unfold Cov.swp;by_cases e1:i=c
  ·rw[if_pos e1,if_pos e1,if_pos e1]
  ·rw[if_neg e1,if_neg e1,if_neg e1];by_cases e2:i=p
   ·rw[if_pos e2,if_pos e2,if_pos e2]
   ·rw[if_neg e2,if_neg e2,if_neg e2]
 ·have hk:∀k,k < n->RowAt ((w.setCell ⟨G,p,none⟩ (.slice (some ⟨g c,0,none⟩) (n+1) (cp c))).setCell ⟨G,c,none⟩ (.slice (some ⟨g p,0,none⟩) (n+1) (cp p))) (g k) n (R k):=fun k hk=>(H.row k hk).other (H.ne hk) _ _ _ _;unfold Cov.swp Cov.swpR;split
  ·exact hk p hp
  ·split
   ·exact hk c hc
   ·exact hk i hi
 ·have hinj:=H.inj;unfold Cov.swp at e;by_cases a1:i=c
  ·by_cases b1:k=c
   ·omega
   ·rw[if_pos a1,if_neg b1]at e;by_cases b2:k=p
    ·rw[if_pos b2]at e;have:=hinj p hp c hc e;omega
    ·rw[if_neg b2]at e;have:=hinj p hp k hk e;omega
  ·rw[if_neg a1]at e;by_cases a2:i=p
   ·rw[if_pos a2]at e;by_cases b1:k=c
    ·rw[if_pos b1]at e;have:=hinj c hc p hp e;omega
    ·rw[if_neg b1]at e;by_cases b2:k=p
     ·omega
     ·rw[if_neg b2]at e;have:=hinj c hc k hk e;omega
   ·rw[if_neg a2]at e;by_cases b1:k=c
    ·rw[if_pos b1]at e;have:=hinj i hi p hp e;omega
    ·rw[if_neg b1]at e;by_cases b2:k=p
     ·rw[if_pos b2]at e;have:=hinj i hi c hc e;omega
     ·rw[if_neg b2]at e;exact hinj i hi k hk e
 ·unfold Cov.swp;split
  ·exact H.base.2 p hp
  ·split
   ·exact H.base.2 c hc
   ·exact H.base.2 i hi
theorem Mat.set(H:Mat w B G n g cp R)(hr:r < n)(j:Nat)(q:Rat):
 Mat ((w.setCell ⟨g r,j*2,none⟩ (.int .i64 q.num)).setCell ⟨g r,j*2+1,none⟩ (.int .i64 q.den)) B G n g cp (fun i k=>if i=r/\k=j then q else R i k):=by
 refine⟨(H.top.other (fun e=>H.ne hr e.symm) _ _).other (fun e=>H.ne hr e.symm) _ _,fun i hi=>?_,H.inj,H.base⟩;by_cases e:i=r
 ·subst e
  exact((H.row i hi).set j q).congr (fun k _=>by
   by_cases e:k=j
   ·rw[if_pos e,if_pos ⟨rfl,e⟩]
   ·rw[if_neg e,if_neg (fun h=>e h.2)])
 ·exact((H.row i hi).other (fun h=>e (H.inj i hi r hr h)) _ _ _ _).congr (fun k _=>by rw[if_neg (fun h=>e h.1)])
end
structure Rws(w:World)(B n k:Nat)(vr:Value)(vs:List Value)(g cp:Nat->Nat)(R:Nat->Nat->Rat):Prop where
 own:w.ownsRow B 36 1 vr k vs
 len:vs.length=k
 val:∀i,i < k->vs.getD i undef=.slice (some ⟨g i,0,none⟩) (n+1) (cp i)
 row:∀i,i < k->RowAt w (g i) n (R i)
 inj:∀i,i < k->∀j,j < k->g i=g j->i=j
 base:∀i,i < k->B<=g i
section
variable {w w':World} {B n k:Nat} {vr:Value} {vs:List Value} {g cp:Nat->Nat} {R:Nat->Nat->Rat}
theorem Rws.below(H:Rws w B n k vr vs g cp R)(hb:Bl w w'):Rws w' B n k vr vs g cp R:=⟨qB H.own hb,H.len,H.val,fun i hi=>RwIs.below (H.row i hi) hb,H.inj,H.base⟩
theorem RwIs.typ{g:Nat}{t:TypeId}{f:Nat->Value}(H:RwIs w g t n f):∃cur,w.heap[g]?=some (.cells cur t (0,0)):=by
 obtain⟨c,hb,_⟩:=H;exact⟨c,hb⟩
theorem Rws.other(H:Rws w B n k vr vs g cp R){f:Nat->Value}(hc:RwIs w c 37 m f)(hne:∀i,i < k->g i≠c)(a:Nat)(v:Value):Rws (w.setCell ⟨c,a,none⟩ v) B n k vr vs g cp R:=
 ⟨qC H.own (fun q hq=>bD _ _ _ _ (fun e=>own_ne H.own hc.typ (by decide) (by rw[hq];exact congrArg some e.symm))),H.len,H.val,fun i hi=>RwIs.other (H.row i hi) (hne i hi) _ _,H.inj,H.base⟩
theorem Rws.step{w3:World}{o:Obj}{vr':Value}{cap:Nat}{r:Nat->Rat}(H:Rws w B n k vr vs g cp R)(hr:RowAt w c n r)(hcB:B<=c)(hne:∀i,i < k->g i≠c)(hR:∀j,j<=n->r j=R k j)
 (hown:w3.ownsRow B 36 1 vr' (k+1) (vs++[.slice (some ⟨c,0,none⟩) (n+1) cap])) (hg:(w.alloc o).grownBy w3 vr.ownBlock):
 Rws w3 B n (k+1) vr' (vs++[.slice (some ⟨c,0,none⟩) (n+1) cap]) (fun i=>if i=k then c else g i) (fun i=>if i=k then cap else cp i) R:=by
 have hsz:(w.alloc o).heap.size=w.heap.size+1:=by simp
 have hk:∀b,b < w.heap.size->some b≠vr.ownBlock->w3.heap[b]?=w.heap[b]?:=fun b hb hne=>(hg.block b (by omega) hne).trans (Below.heap_alloc _ _ _ hb);have hrow:∀{q:Nat} {f:Nat->Rat},RowAt w q n f->RowAt w3 q n f:=fun h=>RwIs.of_block h (hk _ h.lt (own_ne H.own h.typ (by decide)));refine⟨hown,by rw[lA,H.len];rfl,fun i hi=>?_,fun i hi=>?_,fun i hi j hj e=>?_,fun i hi=>?_⟩
 ·by_cases e:i=k
  ·subst e;rw[if_pos rfl,if_pos rfl,gD,bN (by rw[H.len];exact nR _),H.len];simp
  ·rw[if_neg e,if_neg e,gD,aL (by rw[H.len];omega),<-gD];exact H.val i (by omega)
 ·by_cases e:i=k
  ·subst e;rw[if_pos rfl];exact(hrow hr).congr hR
  ·rw[if_neg e];exact hrow (H.row i (by omega))
 ·by_cases e1:i=k
  ·by_cases e2:j=k
   ·omega
   ·rw[if_pos e1,if_neg e2]at e;exact absurd e.symm (hne j (by omega))
  ·by_cases e2:j=k
   ·rw[if_neg e1,if_pos e2]at e;exact absurd e (hne i (by omega))
   ·rw[if_neg e1,if_neg e2]at e;exact H.inj i (by omega) j (by omega) e
 ·by_cases e:i=k
  ·rw[if_pos e];exact hcB
  ·rw[if_neg e];exact H.base i (by omega)
theorem Rws.mat(H:Rws w B n n vr vs g cp R)(hn:0 < n):∃G cap,vr=.slice (some ⟨G,0,none⟩) n cap/\Mat w B G n g cp R:=by
 rcases H.own.2 with ⟨_,h⟩|⟨G,cap,cur,rfl,hb,hc,-,-,-,ht⟩
 ·omega
 ·refine⟨G,cap,rfl,⟨cur,hc,fun i hi=>?_⟩,H.row,H.inj,hb,H.base⟩
  have e:cur[i]?=vs[i]?:=by
   rw[<-ht,List.getElem?_take_of_lt (by omega),Array.getElem?_toList]
  rw[e];have:=H.val i hi;rw[gD,gE (by rw[H.len];exact hi)]at this;rw[gE (by rw[H.len];exact hi)];simpa using this
end
def dcs(ps:List (Value×Dem)):List Value:=ps.flatMap fun p=>[p.1,.bool p.2.up,.int .i64 p.2.bd]
def pd0:Value×Dem:=(undef,yN)
theorem Jr(ps:List (Value×Dem)):(dcs ps).length=ps.length*3:=by
 induction ps with
 |nil=>rfl
 |cons p ps ih=>
  show([p.1,.bool p.2.up,.int .i64 p.2.bd]++dcs ps).length=_;rw[lA,ih,List.length_cons];simp only[List.length_cons,List.length_nil];omega
theorem Va(ps:List (Value×Dem))(p:Value×Dem):dcs (ps++[p])=dcs ps++[p.1,.bool p.2.up,.int .i64 p.2.bd]:=by
 simp[dcs]
theorem QH:∀(ps:List (Value×Dem)) (i:Nat),i < ps.length->(dcs ps)[i*3]?=some (ps.getD i pd0).1/\(dcs ps)[i*3+1]?=some (.bool (ps.getD i pd0).2.up)/\(dcs ps)[i*3+2]?=some (.int .i64 (ps.getD i pd0).2.bd)
 |[],i,h=>by simp at h
 |p::ps,0,_=>⟨rfl,rfl,rfl⟩
 |p::ps,i+1,h=>by
  have h':i < ps.length:=by simpa using h
  have:=QH ps i h';have e:dcs (p::ps)=[p.1,.bool p.2.up,.int .i64 p.2.bd]++dcs ps:=rfl;rw[e];rw[bN (by simp;omega),bN (by simp;omega),bN (by simp;omega)];simp only[List.length_cons,List.length_nil];rw[show(i+1)*3 - (0+1+1+1)=i*3 by omega,show(i+1)*3+1 - (0+1+1+1)=i*3+1 by omega,show(i+1)*3+2 - (0+1+1+1)=i*3+2 by omega];exact this
structure DP(w:World)(v:Value)(ps:List (Value×Dem)):Prop where
 sl:∃a cap,v=.slice a ps.length cap/\(ps.length=0∨∃b o,a=some ⟨b,o,none⟩/\∀j u,(dcs ps)[j]?=some u->w.cell? ⟨b,o+j,none⟩=some u)
 each:∀p∈ps,IntsAt w p.1 p.2.pl
theorem DP.below{ps:List (Value×Dem)}(h:DP w v ps)(hb:Bl w w'):DP w' v ps:=by
 obtain⟨⟨a,cap,e,hc⟩,he⟩:=h;refine⟨⟨a,cap,e,?_⟩,fun p hp=>(he p hp).below hb⟩;rcases hc with h0|⟨b,o,ea,hc⟩
 ·exact Or.inl h0
 ·exact Or.inr ⟨b,o,ea,fun j u hj=>(hb.cell (p:=⟨b,o+j,none⟩) (bL w _ (hc j u hj))).trans (hc j u hj)⟩
theorem qAu{ps:List (Value×Dem)}(h:w.ownsRow B 145 3 v ps.length (dcs ps))(he:∀p∈ps,IntsAt w p.1 p.2.pl):DP w v ps:=by
 refine⟨?_,he⟩;rcases h.2 with ⟨rfl,h2⟩|⟨g,cap,cur,rfl,hb',hc,hn,-,-,ht⟩
 ·exact⟨none,0,by rw[h2],Or.inl h2⟩
 ·refine⟨_,cap,rfl,Or.inr ⟨g,0,rfl,fun j u hj=>?_⟩⟩
  have hjl:j < ps.length*3:=by
   have:=(List.getElem?_eq_some_iff.1 hj).1;rw[Jr]at this;exact this
  rw[cell_of_row _ _ _ _ _ _ hc,Nat.zero_add,<-hj,<-ht,List.getElem?_take_of_lt hjl,Array.getElem?_toList]
theorem qC5{ps:List (Value×Dem)}(h:DP w v ps):∀u∈dcs ps,u.oneCell'=true:=by
 intro u hu;obtain⟨p,hp,hm⟩:=List.mem_flatMap.1 hu;obtain⟨a,cap,e,-⟩:=h.each p hp;simp only[List.mem_cons,List.not_mem_nil,or_false]at hm;rcases hm with rfl|rfl|rfl
 ·rw[e];rfl
 ·rfl
 ·rfl
theorem ux(ps:List (Value×Dem))(i:Nat):(ps.map Prod.snd).getD i yN=(ps.getD i pd0).2:=by
 rw[gD,bJ,gD];cases ps[i]? <;> rfl
def BestAt(w:World)(n:Nat)(all:List Dem)(v:Value):Option (Nat->Rat)->Prop
 |none=>∃a cap,v=.slice a 0 cap
 |some b=>IR w v (prs n b)/\InP n all b/\Parts n b
theorem IR.below'{l:List (Int×Int)}(h:IR w v l)(hb:Bl w w'):IR w' v l:=by
 obtain⟨a,cap,e,h⟩:=h;refine⟨a,cap,e,?_⟩;rcases h with h0|⟨b,o,ea,hc⟩
 ·exact Or.inl h0
 ·exact Or.inr ⟨b,o,ea,fun j hj=>⟨(hb.cell (p:=⟨b,o+j*2,none⟩) (bL w _ (hc j hj).1)).trans (hc j hj).1,(hb.cell (p:=⟨b,o+j*2+1,none⟩) (bL w _ (hc j hj).2)).trans (hc j hj).2⟩⟩
theorem BestAt.below{all:List Dem}{b:Option (Nat->Rat)}(h:BestAt w n all v b)(hb:Bl w w'):BestAt w' n all v b:=by
 cases b with
 |none=>exact h
 |some b=>exact⟨h.1.below' hb,h.2⟩
theorem BestAt.len{all:List Dem}{b:Option (Nat->Rat)}(h:BestAt w n all v b):∃a cap,v=.slice a (if b.isNone then 0 else n) cap:=by
 cases b with
 |none=>exact h
 |some b=>
  obtain⟨⟨a,cap,e,-⟩,-⟩:=h;rw[qU]at e;exact⟨a,cap,e⟩
def xO(n:Nat):List Dem:=(List.range n).map fun i=>⟨[i],false,0⟩
def zn(L:List (List Nat)):List Dem:=L.map fun l=>⟨l,false,1⟩
def uI(bag:List Int)(es:List (List Int)):List Dem:=zn (qM bag es)++xO es.length
theorem Jo(hi:i < n)(b:Bool)(z:Int)(x:Nat->Rat):(Dem.dm ⟨[i],b,z⟩).at n x=x i:=by
 show Cov.sm n (fun j=>(if j∈[i] then 1 else 0)*x j)=x i;rw[Cov.sm_single hi (fun j _ hne=>by rw[if_neg (fun h=>hne (List.mem_singleton.1 h))];grind),if_pos (List.mem_singleton.2 rfl)];grind
theorem VX:(∀D∈xO n,D.dm.meets n x)↔∀i,i < n->0<=x i:=by
 constructor
 ·intro h i hi;have:=h ⟨[i],false,0⟩ (List.mem_map.2 ⟨i,List.mem_range.2 hi,rfl⟩);have e:=Jo hi false 0 x;unfold Cov.Dm.meets at this;rw[e]at this;exact this
 ·intro h D hD;obtain⟨i,hi,rfl⟩:=List.mem_map.1 hD;have hi:=List.mem_range.1 hi;unfold Cov.Dm.meets;rw[Jo hi];exact h i hi
theorem U9{L:List (List Nat)}{l:List Nat}(h:l∈L):∃r,r < L.length/\L.getD r []=l:=kz h
theorem YC:InP es.length (uI bag es) x↔Cov.Cover bag.length es.length (inc (qM bag es)) x:=by
 unfold InP uI Cov.Cover
 rw[show(∀D∈zn (qM bag es)++xO es.length,D.dm.meets es.length x)↔(∀D∈zn (qM bag es),D.dm.meets es.length x)/\(∀D∈xO es.length,D.dm.meets es.length x) from
  ⟨fun h=>⟨fun D hD=>h D (List.mem_append.2 (Or.inl hD)),fun D hD=>h D (List.mem_append.2 (Or.inr hD))⟩,fun h D hD=>(List.mem_append.1 hD).elim (h.1 D) (h.2 D)⟩,VX,and_comm]
 refine and_congr Iff.rfl ?_;constructor
 ·intro h r hr;rw[<-xz bag es]at hr;exact h ⟨(qM bag es).getD r [],false,1⟩ (List.mem_map.2 ⟨_,xT hr,rfl⟩)
 ·intro h D hD;obtain⟨l,hl,rfl⟩:=List.mem_map.1 hD;obtain⟨r,hr,rfl⟩:=U9 hl;rw[xz]at hr;exact h r hr
theorem Kn(h:zF bag.length es.length (inc (qM bag es)) x):QA es.length false (uI bag es) x:=
 ⟨YC.2 h.1,fun y hy=>h.2 y (YC.1 hy)⟩
theorem qAr(p:Nat->Bool)(k:Nat):(plN p k).Nodup:=List.Pairwise.filter _ List.nodup_range
theorem qAs(he:es.length<=7):∀D∈uI bag es,zT es.length D:=by
 intro D hD;rcases List.mem_append.1 hD with h|h
 ·obtain⟨l,hl,rfl⟩:=List.mem_map.1 h;obtain⟨v,_,rfl⟩:=List.mem_map.1 hl;exact⟨qAr _ _,fun i hi=>(yt.1 hi).1,bK (XO _ _) he,Or.inr rfl⟩
 ·obtain⟨i,hi,rfl⟩:=List.mem_map.1 h;exact⟨by simp,fun j hj=>by rw[List.mem_singleton.1 hj];exact List.mem_range.1 hi,by simp,Or.inl rfl⟩
theorem qAt(h:∀i,i < n->x i=y i):prs n x=prs n y:=by
 unfold prs;exact List.map_congr_left (fun i hi=>by rw[h i (List.mem_range.1 hi)])
def qL(bag e:List Int):List Int:=e.filter fun v=>decide (v∈bag)
def xi(a b:List Int):Bool:=a.all fun x=>decide (x∈b)
def jl(bag:List Int)(es:List (List Int))(i j:Nat):Bool:=
 decide (j≠i)&&xi (qL bag (es.getD i [])) (qL bag (es.getD j []))&&(decide ((qL bag (es.getD i [])).length < (qL bag (es.getD j [])).length)||decide (j < i))
def yf(bag:List Int)(es:List (List Int))(i:Nat):Bool:=
 decide (0 < (qL bag (es.getD i [])).length)&&(List.range es.length).all fun j=>!jl bag es i j
def zW(bag:List Int)(es:List (List Int)):List Nat:=(List.range es.length).filter (yf bag es)
def zc(bag:List Int)(es:List (List Int)):List (List Int):=(zW bag es).map fun i=>qL bag (es.getD i [])
theorem xt:xi a b=true↔∀x∈a,x∈b:=by simp[xi]
theorem y6{e:List Int}{x:Int}:x∈qL bag e↔x∈e/\x∈bag:=by simp[qL]
theorem qAF{P:Nat->Prop}{f:Nat->Nat}{N:Nat}(hN:∀i,P i->f i<=N)(hi:P i):∃j,P j/\∀k,P k->f k<=f j:=by
 refine Classical.byContradiction fun hno=>?_
 have step:∀n,∃j,P j/\n<=f j:=by
  intro n;induction n with
  |zero=>exact⟨i,hi,nZ _⟩
  |succ n ih=>
   obtain⟨j,hj,hn⟩:=ih;refine Classical.byContradiction fun h2=>hno ⟨j,hj,fun k hk=>?_⟩;refine Classical.byContradiction fun h3=>h2 ⟨k,hk,by omega⟩
 obtain⟨j,hj,hn⟩:=step (N+1);have:=hN j hj;omega
theorem qAG{P:Nat->Prop}(hi:P i):∃j,P j/\∀k,P k->j<=k:=by
 refine Classical.byContradiction fun hno=>?_
 have step:∀n k,k < n->¬P k:=by
  intro n;induction n with
  |zero=>intro k hk;omega
  |succ n ih=>
   intro k hk hp;by_cases e:k < n
   ·exact ih k e hp
   ·refine hno ⟨k,hp,fun m hm=>?_⟩;refine Classical.byContradiction fun h3=>ih m (by omega) hm
 exact step (i+1) i (by omega) hi
theorem Yn(ha:a.Nodup)(h:∀x∈a,x∈b):a.length<=b.length:=by
 induction a generalizing b with
 |nil=>simp
 |cons x a ih=>
  have hx:x∈b:=h x (List.mem_cons_self);rw[List.nodup_cons]at ha
  have h2:=ih (b:=b.erase x) ha.2 (fun y hy=>by
   have:y≠x:=fun e=>ha.1 (e ▸ hy);exact(List.mem_erase_of_ne this).2 (h y (mC _ hy)))
  rw[List.length_erase_of_mem hx]at h2;have:0 < b.length:=List.length_pos_of_mem hx;simp only[List.length_cons];omega
theorem YH(hn:∀i,i < es.length->(es.getD i []).Nodup)(hi:i < es.length)(h0:0 < (qL bag (es.getD i [])).length):
 ∃j,j < es.length/\yf bag es j=true/\xi (qL bag (es.getD i [])) (qL bag (es.getD j []))=true:=by
 have hpn:∀j,j < es.length->(qL bag (es.getD j [])).Nodup:=fun j hj=>List.Pairwise.filter _ (hn j hj)
 obtain⟨t,⟨ht,hts⟩,htop⟩:=qAF (P:=fun j=>j < es.length/\xi (qL bag (es.getD i [])) (qL bag (es.getD j []))=true) (f:=fun j=>(qL bag (es.getD j [])).length) (N:=(es.map List.length).sum)
  (fun j hj=>by
   have h1:(qL bag (es.getD j [])).length<=(es.getD j []).length:=List.length_filter_le _ _
   have h2:(es.getD j []).length<=(es.map List.length).sum:=by
    have:es.getD j []∈es:=by
     rw[gD,gE hj.1];exact gM hj.1
    have hm:(es.getD j []).length∈es.map List.length:=List.mem_map_of_mem this;clear h1;generalize es.map List.length=L at hm;generalize (es.getD j []).length=y at hm;induction L with
    |nil=>cases hm
    |cons z L ih=>
     rcases List.mem_cons.1 hm with rfl|h
     ·simp
     ·have:=ih h;simp;omega
   omega) (i:=i) ⟨hi,xt.2 (fun x hx=>hx)⟩
 obtain⟨j,⟨hj,hjs,hjt⟩,hlow⟩:=qAG (P:=fun j=>j < es.length/\xi (qL bag (es.getD i [])) (qL bag (es.getD j []))=true/\(qL bag (es.getD t [])).length<=(qL bag (es.getD j [])).length) (i:=t) ⟨ht,hts,nR _⟩;refine⟨j,hj,?_,hjs⟩;unfold yf;rw[bA,dE,aT];have h1:=htop i ⟨hi,xt.2 (fun x hx=>hx)⟩;refine⟨by omega,fun k hk=>?_⟩;have hk':k < es.length:=by simpa using hk
 rw[Bool.not_eq_true'];refine Bool.eq_false_iff.2 fun ho=>?_;unfold jl at ho;rw[bA,bA,Bool.or_eq_true,dE,dE,dE]at ho;obtain⟨⟨hne,hs⟩,hl⟩:=ho;have hsk:xi (qL bag (es.getD i [])) (qL bag (es.getD k []))=true:=xt.2 (fun x hx=>xt.1 hs x (xt.1 hjs x hx));have h2:=htop k ⟨hk',hsk⟩;have h3:=Yn (hpn j hj) (xt.1 hs);have h4:=hlow k;rcases hl with hl|hl
 ·omega
 ·have:=h4 ⟨hk',hsk,by omega⟩;omega
theorem jm(h:p < (zW bag es).length):(zc bag es).getD p []=qL bag (es.getD ((zW bag es).getD p 0) []):=by
 unfold zc;rw[gD,bJ,gD (l:=zW bag es),gE h];rfl
theorem ZA(h:p < (zW bag es).length):(zW bag es).getD p 0 < es.length/\yf bag es ((zW bag es).getD p 0)=true:=by
 have:(zW bag es).getD p 0∈zW bag es:=by
  rw[gD,gE h];exact gM h
 have h2:=List.mem_filter.1 this;exact⟨by simpa using h2.1,h2.2⟩
theorem YI(hj:j < es.length)(hn:yf bag es j=true):∃p,p < (zW bag es).length/\(zW bag es).getD p 0=j:=by
 have:j∈zW bag es:=List.mem_filter.2 ⟨by simpa using hj,hn⟩;obtain⟨p,hp,e⟩:=gO this;exact⟨p,hp,by rw[gD,gE hp];exact e⟩
theorem yH(bag:List Int)(es:List (List Int)):(zc bag es).length=(zW bag es).length:=by simp[zc]
theorem qCR(bag:List Int)(es:List (List Int)):(zW bag es).length<=es.length:=by
 unfold zW;exact bK (List.length_filter_le _ _) (by simp)
theorem x6{e:Nat}(hr:r < bag.length)(he:e < es.length):inc (qM bag es) r e=if bag.getD r 0∈es.getD e [] then 1 else 0:=by
 unfold inc qM
 have h1:(bag.map fun x=>plN (fun i=>decide (x∈es.getD i [])) es.length).getD r []=plN (fun i=>decide (bag.getD r 0∈es.getD i [])) es.length:=by
  rw[gD,bJ,gD (l:=bag),gE hr];rfl
 rw[h1];unfold plN;by_cases hm:bag.getD r 0∈es.getD e []
 ·rw[if_pos hm,if_pos (List.mem_filter.2 ⟨by simpa using he,by simpa using hm⟩)]
 ·rw[if_neg hm,if_neg (fun h=>hm (by simpa using (List.mem_filter.1 h).2))]
theorem yC(hr:r < bag.length):bag.getD r 0∈bag:=by
 rw[gD,gE hr];exact gM hr
theorem JJ(hn:∀i,i < es.length->(es.getD i []).Nodup)(hx:zF bag.length es.length (inc (qM bag es)) x)
 (hy:zF bag.length (zc bag es).length (inc (qM bag (zc bag es))) y):Cov.sm es.length x=Cov.sm (zc bag es).length y:=by
 have hup:∀e,∃p,e < es.length->0 < (qL bag (es.getD e [])).length->p < (zW bag es).length/\xi (qL bag (es.getD e [])) (qL bag (es.getD ((zW bag es).getD p 0) []))=true:=by
  intro e;by_cases h:e < es.length/\0 < (qL bag (es.getD e [])).length
  ·obtain⟨j,h1,h2,h3⟩:=YH hn h.1 h.2;obtain⟨p,h4,h5⟩:=YI h1 h2;exact⟨p,fun _ _=>⟨h4,by rw[h5];exact h3⟩⟩
  ·exact⟨0,fun h1 h2=>absurd ⟨h1,h2⟩ h⟩
 obtain⟨up,hup⟩:∃up:Nat->Nat,∀e,e < es.length->0 < (qL bag (es.getD e [])).length->up e < (zW bag es).length/\xi (qL bag (es.getD e [])) (qL bag (es.getD ((zW bag es).getD (up e) 0) []))=true:=
  ⟨fun e=>Classical.choose (hup e),fun e=>Classical.choose_spec (hup e)⟩
 have hl:=yH bag es;refine Cov.kept_sum (m:=bag.length) (rep:=fun p=>(zW bag es).getD p 0) (up:=up) (nz:=fun e=>decide (0 < (qL bag (es.getD e [])).length)) ?_ ?_ ?_ ?_ hx.1 hx.2 hy.1 hy.2
 ·intro r hr p hp;rw[hl]at hp;have hk:=ZA hp;rw[x6 hr (by rw[hl];exact hp),x6 hr hk.1,jm hp];have:=yC hr;by_cases hm:bag.getD r 0∈es.getD ((zW bag es).getD p 0) []
  ·rw[if_pos hm,if_pos (y6.2 ⟨hm,this⟩)]
  ·rw[if_neg hm,if_neg (fun h=>hm (y6.1 h).1)]
 ·intro p hp;rw[hl]at hp;exact(ZA hp).1
 ·intro e he hz r hr;rw[x6 hr he,if_neg];intro hm;have h1:bag.getD r 0∈qL bag (es.getD e []):=y6.2 ⟨hm,yC hr⟩;have h2:=List.length_pos_of_mem h1;have hz':=of_decide_eq_false hz;omega
 ·intro e he hz;have h0:0 < (qL bag (es.getD e [])).length:=by simpa using hz
  obtain⟨h1,h2⟩:=hup e he h0;refine⟨by rw[hl];exact h1,fun r hr=>?_⟩;rw[x6 hr he,x6 hr (ZA h1).1];by_cases hm:bag.getD r 0∈es.getD e []
  ·have:=(y6.1 (xt.1 h2 _ (y6.2 ⟨hm,yC hr⟩))).1;rw[if_pos hm,if_pos this];exact Rat.le_refl
  ·rw[if_neg hm];split
   ·decide
   ·exact Rat.le_refl
theorem uN(hb:bag.length<=7)(hc:∀r,r < bag.length->∃e,e < es.length/\bag.getD r 0∈es.getD e []):∃x,zF bag.length es.length (inc (qM bag es)) x/\Parts es.length x:=by
 obtain⟨bar,s,h1,h2,h3⟩:=Cov.least_cover (m:=bag.length) (u:=es.length) (M:=inc (qM bag es)) (fun r _ e _=>ju _ r e) (fun r hr=>by
  obtain⟨e,he,hm⟩:=hc r hr;exact⟨e,he,by rw[x6 hr he,if_pos hm]⟩)
 exact⟨_,⟨h2,h3⟩,ZJ h1 hb (fun j _ r _=>uv _ _ _ _ _) _⟩
theorem JK(hn:∀i,i < es.length->(es.getD i []).Nodup)(hc:∀r,r < bag.length->∃e,e < es.length/\bag.getD r 0∈es.getD e []):
 ∀r,r < bag.length->∃e,e < (zc bag es).length/\bag.getD r 0∈(zc bag es).getD e []:=by
 intro r hr;obtain⟨e,he,hm⟩:=hc r hr;have h1:bag.getD r 0∈qL bag (es.getD e []):=y6.2 ⟨hm,yC hr⟩;obtain⟨j,h2,h3,h4⟩:=YH hn he (List.length_pos_of_mem h1);obtain⟨p,h5,h6⟩:=YI h2 h3;exact⟨p,by rw[yH];exact h5,by rw[jm h5,h6];exact xt.1 h4 _ h1⟩
end Go.Proofs.YtjbpgdpciinlcaaGreat
