import Derived.Test.YtkaipapdlnojiaaGreatWq18
set_option maxHeartbeats 40000000
set_option maxRecDepth 1000000
namespace Go.Proofs.YtkaipapdlnojiaaGreat
open Go.RowKit
variable {es:List (List Int)}{bag:List Int}{B c i j m n:Nat}{x:Nat->Rat}{v:Value}{w w':World}
def RwIs(w:World)(g:Nat)(t:TypeId)(n:Nat)(f:Nat->Value):Prop:=
 ∃cur:Array Value,w.heap[g]?=some (.cells cur t (0,0))/\∀i,i < n->cur[i]?=some (f i)
section
variable {w w':World} {g h n:Nat} {t t':TypeId} {f f':Nat->Value}
theorem RwIs.cell(H:RwIs w g t n f)(hi:i < n):w.cell? ⟨g,i,none⟩=some (f i):=by
 obtain⟨c,hb,I⟩:=H;simp[World.cell?,hb,I i hi]
theorem RwIs.free(H:RwIs w g t n f)(i:Nat):w.frozen? ⟨g,i,none⟩=false:=by
 obtain⟨c,hb,_⟩:=H;simp[World.frozen?,hb]
theorem RwIs.lt(H:RwIs w g t n f):g < w.heap.size:=by
 obtain⟨c,hb,_⟩:=H;obtain⟨I,_⟩:=Array.getElem?_eq_some_iff.1 hb;exact I
theorem RwIs.congr(H:RwIs w g t n f)(e:∀i,i < n->f i=f' i):RwIs w g t n f':=by
 obtain⟨c,hb,I⟩:=H;exact⟨c,hb,λi hi=>by rw[I i hi,e i hi]⟩
theorem RwIs.of_block(H:RwIs w g t n f)(e:w'.heap[g]?=w.heap[g]?):RwIs w' g t n f:=by
 obtain⟨c,hb,I⟩:=H;exact⟨c,e.trans hb,I⟩
theorem RwIs.below(H:RwIs w g t n f)(hb:Bl w w'):RwIs w' g t n f:=H.of_block (hb.block g H.lt)
theorem RwIs.set(H:RwIs w g t n f)(i:Nat)(v:Value):RwIs (w.setCell ⟨g,i,none⟩ v) g t n (λj=>if j=i then v else f j):=by
 obtain⟨c,hb,K⟩:=H;refine⟨c.setIfInBounds i v,?_,λj M=>?_⟩
 ·simp[World.setCell,Array.getElem?_modify,hb]
 ·have I:j < c.size:=by
   have:=K j M;exact(Array.getElem?_eq_some_iff.1 this).1
  rw[Array.getElem?_setIfInBounds];by_cases e:j=i
  ·subst e;simp[I]
  ·rw[if_neg (λh=>e h.symm)];show c[j]?=some (if j=i then v else f j);rw[if_neg e];exact K j M
theorem RwIs.other(H:RwIs w g t n f)(I:g≠h)(i:Nat)(v:Value):RwIs (w.setCell ⟨h,i,none⟩ v) g t n f:=H.of_block (bE _ _ _ _ I)
theorem RwIs.ne(H:RwIs w g t n f)(K:RwIs w h t' m f')(M:t≠t'):g≠h:=by
 rintro rfl;obtain⟨c,hb,_⟩:=H;obtain⟨c',I,_⟩:=K;rw[hb]at I;simp only[Option.some.injEq,Obj.cells.injEq]at I;exact M I.2.1
end
def Xs(r:Nat->Rat):Nat->Value:=λk=>if k % 2=0 then .int .i64 (r (k / 2)).num else .int .i64 (r (k / 2)).den
def RowAt(w:World)(g n:Nat)(r:Nat->Rat):Prop:=RwIs w g 28 ((n+1)*2) (Xs r)
section
variable {w w':World} {g h n:Nat} {r:Nat->Rat}
theorem RowAt.num(H:RowAt w g n r)(I:j<=n):w.cell? ⟨g,j*2,none⟩=some (.int .i64 (r j).num):=by
 rw[RwIs.cell H Oo];unfold Xs;rw[if_pos Oo,show j*2 / 2=j by omega]
theorem RowAt.den(H:RowAt w g n r)(I:j<=n):w.cell? ⟨g,j*2+1,none⟩=some (.int .i64 (r j).den):=by
 rw[RwIs.cell H Oo];unfold Xs;rw[if_neg Oo,show(j*2+1) / 2=j by omega]
theorem RowAt.set(H:RowAt w g n r)(j:Nat)(q:Rat):RowAt ((w.setCell ⟨g,j*2,none⟩ (.int .i64 q.num)).setCell ⟨g,j*2+1,none⟩ (.int .i64 q.den)) g n (λi=>if i=j then q else r i):=by
 refine RwIs.congr (RwIs.set (RwIs.set H (j*2) _) (j*2+1) _) (λk M=>?_);unfold Xs;show _=if k % 2=0 then Value.int IntKind.i64 (if k / 2=j then q else r (k / 2)).num else Value.int IntKind.i64 (if k / 2=j then q else r (k / 2)).den
 by_cases I:k=j*2+1
 ·rw[if_pos I,if_neg Oo,if_pos Oo]
 ·rw[if_neg I];by_cases K:k=j*2
  ·rw[if_pos K,if_pos Oo,if_pos Oo]
  ·rw[if_neg K,if_neg (show ¬k / 2=j by omega)]
theorem RowAt.other(H:RowAt w g n r)(I:g≠h)(i k:Nat)(v u:Value):RowAt ((w.setCell ⟨h,i,none⟩ v).setCell ⟨h,k,none⟩ u) g n r:=RwIs.other (RwIs.other H I i v) I k u
theorem RowAt.congr{r':Nat->Rat}(H:RowAt w g n r)(e:∀j,j<=n->r j=r' j):RowAt w g n r':=by
 refine RwIs.congr H (λk I=>?_);unfold Xs;rw[e (k / 2) Oo]
theorem qFr(k:Nat):∀j,j < k->(zs k)[j*2]?=some (.int .i64 0)/\(zs k)[j*2+1]?=some (.int .i64 1):=by
 induction k with
 |zero=>intro j I;omega
 |succ k ih=>
  intro j I;have hl:(zs k).length=k*2:=by simp[zs]
  rw[YN];by_cases e:j < k
  ·rw[aL Oo,aL Oo];exact ih j e
  ·obtain rfl:j=k:=Oo;rw[bX Oo,bX Oo,hl];simp
theorem qDR(H:w.ownsRow B 28 2 v (n+1) (zs (n+1))):∃g cap,v=.slice (some ⟨g,0,none⟩) (n+1) cap/\B<=g/\g < w.heap.size/\RowAt w g n (λ_=>0):=by
 rcases H.2 with ⟨_,h⟩|⟨g,cap,cur,rfl,hb,O,V,-,-,U⟩
 ·omega
 ·have hr:RowAt w g n (λ_=>0):=by
   refine⟨cur,O,λi hi=>?_⟩
   have e:cur[i]?=(zs (n+1))[i]?:=by
    rw[<-U,List.getElem?_take_of_lt hi,Array.getElem?_toList]
   rw[e];unfold Xs;obtain⟨I,K⟩:=qFr (n+1) (i / 2) Oo;by_cases M:i % 2=0
   ·rw[if_pos M];rw[show i / 2*2=i by omega]at I;exact I
   ·rw[if_neg M];rw[show i / 2*2+1=i by omega]at K;exact K
  exact⟨g,cap,rfl,hb,hr.lt,hr⟩
end
structure Mat(w:World)(B G n:Nat)(g cp:Nat->Nat)(R:Nat->Nat->Rat):Prop where
 top:RwIs w G 26 n (λi=>.slice (some ⟨g i,0,none⟩) (n+1) (cp i))
 row:∀i,i < n->RowAt w (g i) n (R i)
 inj:∀i,i < n->∀k,k < n->g i=g k->i=k
 base:B<=G/\∀i,i < n->B<=g i
section
variable {w w':World} {B G n:Nat} {g cp:Nat->Nat} {R R':Nat->Nat->Rat}
theorem Mat.ne(H:Mat w B G n g cp R)(hi:i < n):g i≠G:=RwIs.ne (H.row i hi) H.top Dd
theorem Mat.below(H:Mat w B G n g cp R)(hb:Bl w w'):Mat w' B G n g cp R:=⟨H.top.below hb,λi hi=>RwIs.below (H.row i hi) hb,H.inj,H.base⟩
theorem Mat.congr(H:Mat w B G n g cp R)(e:∀i,i < n->∀j,j<=n->R i j=R' i j):Mat w B G n g cp R':=⟨H.top,λi hi=>(H.row i hi).congr (e i hi),H.inj,H.base⟩
theorem Mat.head(H:Mat w B G n g cp R)(hi:i < n):w.cell? ⟨G,i,none⟩=some (.slice (some ⟨g i,0,none⟩) (n+1) (cp i)):=H.top.cell hi
theorem Mat.swap(H:Mat w B G n g cp R){p:Nat}(M:c < n)(hp:p < n):
 Mat ((w.setCell ⟨G,p,none⟩ (.slice (some ⟨g c,0,none⟩) (n+1) (cp c))).setCell ⟨G,c,none⟩ (.slice (some ⟨g p,0,none⟩) (n+1) (cp p))) B G n (Cov.swp g c p) (Cov.swp cp c p) (Cov.swpR R c p):=by
 refine⟨RwIs.congr ((H.top.set p _).set c _) (λi _=>?_),λi hi=>?_,λi hi k K e=>?_,H.base.1,λi hi=>?_⟩
 ·unfold Cov.swp;by_cases O:i=c
  ·rw[if_pos O,if_pos O,if_pos O]
  ·rw[if_neg O,if_neg O,if_neg O];by_cases U:i=p
   ·rw[if_pos U,if_pos U,if_pos U]
   ·rw[if_neg U,if_neg U,if_neg U]
 ·have K:∀k,k < n->RowAt ((w.setCell ⟨G,p,none⟩ (.slice (some ⟨g c,0,none⟩) (n+1) (cp c))).setCell ⟨G,c,none⟩ (.slice (some ⟨g p,0,none⟩) (n+1) (cp p))) (g k) n (R k):=λk K=>(H.row k K).other (H.ne K) _ _ _ _;unfold Cov.swp Cov.swpR;split
  ·exact K p hp
  ·split
   ·exact K c M
   ·exact K i hi
 ·have I:=H.inj;unfold Cov.swp at e;by_cases a1:i=c
  ·by_cases b1:k=c
   ·omega
   ·rw[if_pos a1,if_neg b1]at e;by_cases b2:k=p
    ·rw[if_pos b2]at e;have:=I p hp c M e;omega
    ·rw[if_neg b2]at e;have:=I p hp k K e;omega
  ·rw[if_neg a1]at e;by_cases V:i=p
   ·rw[if_pos V]at e;by_cases b1:k=c
    ·rw[if_pos b1]at e;have:=I c M p hp e;omega
    ·rw[if_neg b1]at e;by_cases b2:k=p
     ·omega
     ·rw[if_neg b2]at e;have:=I c M k K e;omega
   ·rw[if_neg V]at e;by_cases b1:k=c
    ·rw[if_pos b1]at e;have:=I i hi p hp e;omega
    ·rw[if_neg b1]at e;by_cases b2:k=p
     ·rw[if_pos b2]at e;have:=I i hi c M e;omega
     ·rw[if_neg b2]at e;exact I i hi k K e
 ·unfold Cov.swp;split
  ·exact H.base.2 p hp
  ·split
   ·exact H.base.2 c M
   ·exact H.base.2 i hi
theorem Mat.set(H:Mat w B G n g cp R){r:Nat}(hr:r < n)(j:Nat)(q:Rat):
 Mat ((w.setCell ⟨g r,j*2,none⟩ (.int .i64 q.num)).setCell ⟨g r,j*2+1,none⟩ (.int .i64 q.den)) B G n g cp (λi k=>if i=r/\k=j then q else R i k):=by
 refine⟨(H.top.other (λe=>H.ne hr e.symm) _ _).other (λe=>H.ne hr e.symm) _ _,λi hi=>?_,H.inj,H.base⟩;by_cases e:i=r
 ·subst e
  exact((H.row i hi).set j q).congr (λk _=>by
   by_cases e:k=j
   ·rw[if_pos e,if_pos ⟨rfl,e⟩]
   ·rw[if_neg e,if_neg (λh=>e h.2)])
 ·exact((H.row i hi).other (λh=>e (H.inj i hi r hr h)) _ _ _ _).congr (λk _=>by rw[if_neg (λh=>e h.1)])
end
structure Rws(w:World)(B n k:Nat)(vr:Value)(vs:List Value)(g cp:Nat->Nat)(R:Nat->Nat->Rat):Prop where
 own:w.ownsRow B 26 1 vr k vs
 len:vs.length=k
 val:∀i,i < k->vs.getD i undef=.slice (some ⟨g i,0,none⟩) (n+1) (cp i)
 row:∀i,i < k->RowAt w (g i) n (R i)
 inj:∀i,i < k->∀j,j < k->g i=g j->i=j
 base:∀i,i < k->B<=g i
section
variable {w w':World} {B n k:Nat} {vr:Value} {vs:List Value} {g cp:Nat->Nat} {R:Nat->Nat->Rat}
theorem Rws.below(H:Rws w B n k vr vs g cp R)(hb:Bl w w'):Rws w' B n k vr vs g cp R:=⟨qB H.own hb,H.len,H.val,λi hi=>RwIs.below (H.row i hi) hb,H.inj,H.base⟩
theorem RwIs.typ{g:Nat}{t:TypeId}{f:Nat->Value}(H:RwIs w g t n f):∃cur,w.heap[g]?=some (.cells cur t (0,0)):=by
 obtain⟨c,hb,_⟩:=H;exact⟨c,hb⟩
theorem Rws.other(H:Rws w B n k vr vs g cp R){f:Nat->Value}(K:RwIs w c 28 m f)(I:∀i,i < k->g i≠c)(a:Nat)(v:Value):Rws (w.setCell ⟨c,a,none⟩ v) B n k vr vs g cp R:=
 ⟨qA H.own (λq hq=>bE _ _ _ _ (λe=>own_ne H.own K.typ Dd (by rw[hq];exact congrArg some e.symm))),H.len,H.val,λi hi=>RwIs.other (H.row i hi) (I i hi) _ _,H.inj,H.base⟩
theorem Rws.step{w3:World}{o:Obj}{M:Value}{cap:Nat}{r:Nat->Rat}(H:Rws w B n k vr vs g cp R)(hr:RowAt w c n r)(V:B<=c)(I:∀i,i < k->g i≠c)(hR:∀j,j<=n->r j=R k j)
 (O:w3.ownsRow B 26 1 M (k+1) (vs++[.slice (some ⟨c,0,none⟩) (n+1) cap])) (hg:(w.alloc o).grownBy w3 vr.ownBlock):
 Rws w3 B n (k+1) M (vs++[.slice (some ⟨c,0,none⟩) (n+1) cap]) (λi=>if i=k then c else g i) (λi=>if i=k then cap else cp i) R:=by
 have a2:(w.alloc o).heap.size=w.heap.size+1:=Ss;have hk:∀b,b < w.heap.size->some b≠vr.ownBlock->w3.heap[b]?=w.heap[b]?:=λb hb I=>(hg.block b Oo I).trans (Below.heap_alloc _ _ _ hb);have K:∀{q:Nat} {f:Nat->Rat},RowAt w q n f->RowAt w3 q n f:=λh=>RwIs.of_block h (hk _ h.lt (own_ne H.own h.typ Dd));refine⟨O,by rw[lA,H.len];rfl,λi hi=>?_,λi hi=>?_,λi hi j hj e=>?_,λi hi=>?_⟩
 ·by_cases e:i=k
  ·subst e;rw[if_pos rfl,if_pos rfl,gD,bX (by rw[H.len];exact bK _),H.len];simp
  ·rw[if_neg e,if_neg e,gD,aL (by rw[H.len];omega),<-gD];exact H.val i Oo
 ·by_cases e:i=k
  ·subst e;rw[if_pos rfl];exact(K hr).congr hR
  ·rw[if_neg e];exact K (H.row i Oo)
 ·by_cases e1:i=k
  ·by_cases U:j=k
   ·omega
   ·rw[if_pos e1,if_neg U]at e;exact absurd e.symm (I j Oo)
  ·by_cases U:j=k
   ·rw[if_neg e1,if_pos U]at e;exact absurd e (I i Oo)
   ·rw[if_neg e1,if_neg U]at e;exact H.inj i Oo j Oo e
 ·by_cases e:i=k
  ·rw[if_pos e];exact V
  ·rw[if_neg e];exact H.base i Oo
theorem Rws.mat(H:Rws w B n n vr vs g cp R)(M:0 < n):∃G cap,vr=.slice (some ⟨G,0,none⟩) n cap/\Mat w B G n g cp R:=by
 rcases H.own.2 with ⟨_,h⟩|⟨G,cap,cur,rfl,hb,I,-,-,-,K⟩
 ·omega
 ·refine⟨G,cap,rfl,⟨cur,I,λi hi=>?_⟩,H.row,H.inj,hb,H.base⟩
  have e:cur[i]?=vs[i]?:=by
   rw[<-K,List.getElem?_take_of_lt Oo,Array.getElem?_toList]
  rw[e];have:=H.val i hi;rw[gD,bC (by rw[H.len];exact hi)]at this;rw[bC (by rw[H.len];exact hi)];simpa using this
end
def dcs(ps:List (Value×Dem)):List Value:=ps.flatMap λp=>[p.1,.bool p.2.up,.int .i64 p.2.bd]
def pd0:Value×Dem:=(undef,yQ)
theorem K6(ps:List (Value×Dem)):(dcs ps).length=ps.length*3:=by
 induction ps with
 |nil=>rfl
 |cons p ps ih=>
  show([p.1,.bool p.2.up,.int .i64 p.2.bd]++dcs ps).length=_;rw[lA,ih,List.length_cons];simp only[List.length_cons,List.length_nil];omega
theorem US(ps:List (Value×Dem))(p:Value×Dem):dcs (ps++[p])=dcs ps++[p.1,.bool p.2.up,.int .i64 p.2.bd]:=by
 simp[dcs]
theorem Qe:∀(ps:List (Value×Dem)) (i:Nat),i < ps.length->(dcs ps)[i*3]?=some (ps.getD i pd0).1/\(dcs ps)[i*3+1]?=some (.bool (ps.getD i pd0).2.up)/\(dcs ps)[i*3+2]?=some (.int .i64 (ps.getD i pd0).2.bd)
 |[],i,h=>by simp at h
 |p::ps,0,_=>⟨rfl,rfl,rfl⟩
 |p::ps,i+1,h=>by
  have I:i < ps.length:=by simpa using h
  have:=Qe ps i I;have e:dcs (p::ps)=[p.1,.bool p.2.up,.int .i64 p.2.bd]++dcs ps:=rfl;rw[e];rw[bX (by simp;omega),bX (by simp;omega),bX (by simp;omega)];simp only[List.length_cons,List.length_nil];rw[show(i+1)*3 - (0+1+1+1)=i*3 by omega,show(i+1)*3+1 - (0+1+1+1)=i*3+1 by omega,show(i+1)*3+2 - (0+1+1+1)=i*3+2 by omega];exact this
structure DP(w:World)(v:Value)(ps:List (Value×Dem)):Prop where
 sl:∃a cap,v=.slice a ps.length cap/\(ps.length=0∨∃b o,a=some ⟨b,o,none⟩/\∀j u,(dcs ps)[j]?=some u->w.cell? ⟨b,o+j,none⟩=some u)
 each:∀p∈ps,IntsAt w p.1 p.2.pl
theorem DP.below{ps:List (Value×Dem)}(h:DP w v ps)(hb:Bl w w'):DP w' v ps:=by
 obtain⟨⟨a,cap,e,I⟩,M⟩:=h;refine⟨⟨a,cap,e,?_⟩,λp hp=>(M p hp).below hb⟩;rcases I with O|⟨b,o,U,I⟩
 ·exact Or.inl O
 ·exact Or.inr ⟨b,o,U,λj u K=>(hb.cell (p:=⟨b,o+j,none⟩) (bL w _ (I j u K))).trans (I j u K)⟩
theorem qBv{ps:List (Value×Dem)}(h:w.ownsRow B 53 3 v ps.length (dcs ps))(O:∀p∈ps,IntsAt w p.1 p.2.pl):DP w v ps:=by
 refine⟨?_,O⟩;rcases h.2 with ⟨rfl,K⟩|⟨g,cap,cur,rfl,U,V,hn,-,-,ht⟩
 ·exact⟨none,0,by rw[K],Or.inl K⟩
 ·refine⟨_,cap,rfl,Or.inr ⟨g,0,rfl,λj u M=>?_⟩⟩
  have I:j < ps.length*3:=by
   have:=(List.getElem?_eq_some_iff.1 M).1;rw[K6]at this;exact this
  rw[cell_of_row _ _ _ _ _ _ V,Nat.zero_add,<-M,<-ht,List.getElem?_take_of_lt I,Array.getElem?_toList]
theorem qEO{ps:List (Value×Dem)}(h:DP w v ps):∀u∈dcs ps,u.oneCell'=true:=by
 intro u K;obtain⟨p,hp,I⟩:=List.mem_flatMap.1 K;obtain⟨a,cap,e,-⟩:=h.each p hp;simp only[List.mem_cons,List.not_mem_nil,or_false]at I;rcases I with rfl|rfl|rfl
 ·rw[e];rfl
 ·rfl
 ·rfl
theorem jQ(ps:List (Value×Dem))(i:Nat):(ps.map Prod.snd).getD i yQ=(ps.getD i pd0).2:=by
 rw[gD,bN,gD];cases ps[i]? <;> rfl
def BestAt(w:World)(n:Nat)(all:List Dem)(v:Value):Option (Nat->Rat)->Prop
 |none=>∃a cap,v=.slice a 0 cap
 |some b=>IR w v (prs n b)/\InP n all b/\Parts n b
theorem IR.below'{l:List (Int×Int)}(h:IR w v l)(hb:Bl w w'):IR w' v l:=by
 obtain⟨a,cap,e,h⟩:=h;refine⟨a,cap,e,?_⟩;rcases h with M|⟨b,o,O,I⟩
 ·exact Or.inl M
 ·exact Or.inr ⟨b,o,O,λj K=>⟨(hb.cell (p:=⟨b,o+j*2,none⟩) (bL w _ (I j K).1)).trans (I j K).1,(hb.cell (p:=⟨b,o+j*2+1,none⟩) (bL w _ (I j K).2)).trans (I j K).2⟩⟩
theorem BestAt.below{all:List Dem}{b:Option (Nat->Rat)}(h:BestAt w n all v b)(hb:Bl w w'):BestAt w' n all v b:=by
 cases b with
 |none=>exact h
 |some b=>exact⟨h.1.below' hb,h.2⟩
theorem XV(w:World)(vx vy:Value)(n:Nat)(most:Bool)(x y:Nat->Rat)(hn:n<=7)(hx:IR w vx (prs n x))(hy:IR w vy (prs n y))(px:Parts n x)(py:Parts n y):
 Cl 46 #[vx,vy,.bool most] w λe w'=>e=.returned (.bool (uQ n most x y))/\Bl w w':=by
 have K:=px.sum (bK n) hn;have M:=py.sum (bK n) hn;have KX:Hid (∀W,Bl w W->Cl 19 #[vx] W λe w'=>e=.returned (.agg #[.int .i64 (Cov.sm n x).num,.int .i64 (Cov.sm n x).den])/\Bl W w'):=hid (λW hW=>jA W vx n x hn (hx.below hW) px);have KY:Hid (∀W,Bl w W->Cl 19 #[vy] W λe w'=>e=.returned (.agg #[.int .i64 (Cov.sm n y).num,.int .i64 (Cov.sm n y).den])/\Bl W w'):=hid (λW hW=>jA W vy n y hn (hy.below hW) py);have K1:Hid (∀W,Cl 76 #[.agg #[.int .i64 (Cov.sm n x).num,.int .i64 (Cov.sm n x).den],.agg #[.int .i64 (Cov.sm n y).num,.int .i64 (Cov.sm n y).den]] W λe w'=>e=.returned (.bool (decide (Cov.sm n x < Cov.sm n y)))/\Bl W w'):=hid (λW=>ur _ _ W K M Dd);have K2:Hid (∀W,Cl 76 #[.agg #[.int .i64 (Cov.sm n y).num,.int .i64 (Cov.sm n y).den],.agg #[.int .i64 (Cov.sm n x).num,.int .i64 (Cov.sm n x).den]] W λe w'=>e=.returned (.bool (decide (Cov.sm n y < Cov.sm n x)))/\Bl W w'):=hid (λW=>ur _ _ W M K Dd);have HR:Hid (uQ n most x y=if decide (Cov.sm n x < Cov.sm n y)=true then !most else if decide (Cov.sm n y < Cov.sm n x)=true then most else uP x y n 0):=hid (by unfold uQ;simp only[decide_eq_true_eq]);generalize decide (Cov.sm n x < Cov.sm n y)=b1 at *;generalize decide (Cov.sm n y < Cov.sm n x)=b2 at *;generalize uQ n most x y=R at *;generalize (Cov.sm n x).num=p1 at *;generalize (Cov.sm n x).den=p2 at *;generalize (Cov.sm n y).num=q1 at *;generalize (Cov.sm n y).den=q2 at *;clear K M;obtain⟨a,cap,rfl,b0⟩:=hx;obtain⟨a2,g9,rfl,b7⟩:=hy;rw[qR]at b0 b7;have e5:=hid b0;have e6:=hid b7;have e7:=hid px;have e8:=hid py;clear b0 b7 px py;simp only[qR]at *;go_enter Tryz.func46,Tryz.ntmps46
 go_upto_region 2 with (first|(go_at_call 19;refine(KX.out _ (bM _ _)).mono ?_;rintro e w1 ⟨rfl,b9⟩))
 have hT:=vi w1 p1 p2 28;have hB:Bl w (w1.alloc (.cells #[.int .i64 p1,.int .i64 p2] 28)):=b9.alloc b9.size _;have c9:w1.heap.size < (w1.alloc (.cells #[.int .i64 p1,.int .i64 p2] 28)).heap.size:=Ss;generalize w1.alloc (.cells #[.int .i64 p1,.int .i64 p2] 28)=W1 at *;generalize w1.heap.size=g1 at *;clear b9 KX;go_upto_region 3 with (first|(go_at_call 19;refine(KY.out _ hB).mono ?_;rintro e w2 ⟨rfl,V⟩))
 have d0:=(hT.below c9 V);have e9:g1 < w2.heap.size:=bV c9 V.size;have d6:=vi w2 q1 q2 28;have d7:Two (w2.alloc (.cells #[.int .i64 q1,.int .i64 q2] 28)) g1 p1 p2:=d0.below e9 ((bM _ _).alloc (bK _) _);have d8:Bl w (w2.alloc (.cells #[.int .i64 q1,.int .i64 q2] 28)):=(bt hB V).alloc (bt hB V).size _;have f7:w2.heap.size < (w2.alloc (.cells #[.int .i64 q1,.int .i64 q2] 28)).heap.size:=Ss;generalize w2.alloc (.cells #[.int .i64 q1,.int .i64 q2] 28)=W2 at *;generalize w2.heap.size=g2 at *;have f8:g1 < W2.heap.size:=Oo;clear hT d0 V hB KY;have HB:=hid d8;have d9:=hid d7;have e0:=hid d6;clear d8;obtain⟨s1,s2,-,-⟩:=d7;obtain⟨u1,u2,-,-⟩:=d6;cases b1
 case true=>
  go_wp2_with (first|(go_at_call 76;refine(K1.out _).mono ?_;rintro e w3 ⟨rfl,U⟩))
  go_ret;exact⟨qI (by rw[HR.out];rfl),bt HB.out U⟩
 case false=>
  go_upto_region 5 with (first|(go_at_call 76;refine(K1.out _).mono ?_;rintro e w3 ⟨rfl,U⟩))
  obtain⟨f9,g4,-,-⟩:=d9.out.below f8 U;obtain⟨g5,g6,-,-⟩:=e0.out.below f7 U;have c7:=hid (bt HB.out U);clear s1 s2 u1 u2 U HB d9 e0 K1;cases b2
  case true=>
   go_wp2_with (first|(go_at_call 76;refine(K2.out _).mono ?_;rintro e w4 ⟨rfl,a5⟩))
   go_ret;exact⟨qI (by rw[HR.out];rfl),bt c7.out a5⟩
  case false=>
   go_upto_region 7 with (first|(go_at_call 76;refine(K2.out _).mono ?_;rintro e w4 ⟨rfl,a5⟩))
   have g7:=hid (bt c7.out a5);have g8:Hid (R=uP x y n 0):=hid (by rw[HR.out];rfl);clear c7 a5 HR K2 f9 g4 g5 g6;go_wp2;go_loopw [25] (λt wr=>∃k:Nat,k<=n/\t=.int .i64 k/\Hid (Bl w wr/\R=uP x y (n - k) k)) (λt _=>n - (intOf t).toNat)
   case atStart=>exact⟨0,nZ _,rfl,hid ⟨g7.out,g8.out⟩⟩
   case round=>
    obtain⟨k,hk,rfl,hH⟩:=hrel;by_cases a3:k < n
    ·have i1:(k:Int) < (n:Int):=Oo
     have a6:Hid (R=if x k < y k then true else if y k < x k then false else uP x y (n - (k+1)) (k+1)):=hid (by
      rw[hH.out.2,show n - k=(n - (k+1))+1 by omega];rfl)
     have a7:=hid hH.out.1;have K:=e7.out.sm a3;have M:=e8.out.sm a3;rcases e5.out with h0|⟨b,o,rfl,a4⟩
     ·omega
     rcases e6.out with h0|⟨b',o',rfl,O⟩
     ·omega
     obtain⟨e1,e2⟩:=a4 k a3;obtain⟨e3,e4⟩:=O k a3;rw[vJ a3]at e1 e2 e3 e4;have HC:Hid (∀W,Bl w W->W.cell? ⟨b,o+k*2,none⟩=some (.int .i64 (x k).num)/\W.cell? ⟨b,o+k*2+1,none⟩=some (.int .i64 (x k).den)/\W.cell? ⟨b',o'+k*2,none⟩=some (.int .i64 (y k).num)/\W.cell? ⟨b',o'+k*2+1,none⟩=some (.int .i64 (y k).den)):=hid (λW hW=>⟨(hW.cell (p:=⟨b,o+k*2,none⟩) (bL w _ e1)).trans e1,(hW.cell (p:=⟨b,o+k*2+1,none⟩) (bL w _ e2)).trans e2,(hW.cell (p:=⟨b',o'+k*2,none⟩) (bL w _ e3)).trans e3,(hW.cell (p:=⟨b',o'+k*2+1,none⟩) (bL w _ e4)).trans e4⟩);have KA:Hid (∀W,Cl 76 #[.agg #[.int .i64 (x k).num,.int .i64 (x k).den],.agg #[.int .i64 (y k).num,.int .i64 (y k).den]] W λe w'=>e=.returned (.bool (decide (x k < y k)))/\Bl W w'):=hid (λW=>ur _ _ W K M Dd);have KB:Hid (∀W,Cl 76 #[.agg #[.int .i64 (y k).num,.int .i64 (y k).den],.agg #[.int .i64 (x k).num,.int .i64 (x k).den]] W λe w'=>e=.returned (.bool (decide (y k < x k)))/\Bl W w'):=hid (λW=>ur _ _ W M K Dd);rw[show(if x k < y k then true else if y k < x k then false else uP x y (n - (k+1)) (k+1))=(if decide (x k < y k)=true then true else if decide (y k < x k)=true then false else uP x y (n - (k+1)) (k+1))by simp only[decide_eq_true_eq]]at a6;generalize decide (x k < y k)=b3 at *;generalize decide (y k < x k)=b4 at *;generalize (x k).num=x1 at *;generalize (x k).den=x2 at *;generalize (y k).num=y1 at *;generalize (y k).den=y2 at *;obtain⟨c1,c2,c3,c4⟩:=HC.out wr a7.out;clear a4 O e1 e2 e3 e4 hH K M;cases b3
     case true=>
      go_wp2_with fail
      go_region_law (first|(go_simp;go_at_call 76;refine(KA.out _).mono ?_;rintro e w5 ⟨rfl,I⟩;have a8:=qQ I))
      all_goals
       go_wp2
       go_ret
       exact⟨qI (by rw[a6.out];rfl),bt a7.out a8⟩
     case false=>
      go_wp2_with fail
      go_region_law (first|(go_simp;go_at_call 76;refine(KA.out _).mono ?_;rintro e w5 ⟨rfl,I⟩;have a8:=qQ I))
      all_goals
       have c8:=hid (bt a7.out a8)
       obtain⟨f1,f2,f3,f4⟩:=HC.out w5 c8.out
       clear c1 c2 c3 c4 I a8 a7
       cases b4
       case true=>
        go_wp2_with fail
        go_region_law (first|(go_simp;go_at_call 76;refine(KB.out _).mono ?_;rintro e w6 ⟨rfl,I⟩;have a9:=qQ I))
        all_goals
         go_wp2
         go_ret
         exact⟨qI (by rw[a6.out];rfl),bt c8.out a9⟩
       case false=>
        go_wp2_with fail
        go_region_law (first|(go_simp;go_at_call 76;refine(KB.out _).mono ?_;rintro e w6 ⟨rfl,I⟩;have a9:=qQ I))
        all_goals
         have HF:Hid (Bl w w6/\R=uP x y (n - (k+1)) (k+1)):=hid ⟨bt c8.out a9,by rw[a6.out];rfl⟩
         clear I a9
         go_wp2
         go_roundw
         case rel=>exact⟨k+1,Oo,Gg,HF⟩
         case measure=>simp[intOf];omega
    ·obtain rfl:k=n:=Oo;have i1:¬((k:Int) < (k:Int)):=Oo;have HX:=hH;clear hH;go_wp2;go_ret;refine⟨qI ?_,HX.out.1⟩;rw[HX.out.2,Nat.sub_self];rfl
def qZ(n:Nat):List Dem:=(List.range n).map λi=>⟨[i],false,0⟩
def zD(L:List (List Nat)):List Dem:=L.map λl=>⟨l,false,1⟩
def zb(L:List (List Nat)):List Dem:=(L.filter λl=>!l.isEmpty).map λl=>⟨l,true,1⟩
def yH(bag:List Int)(es:List (List Int)):List Dem:=zD (qG bag es)++qZ es.length
def kC(bag:List Int)(es:List (List Int)):List Dem:=zb (qc bag es)++qZ bag.length
theorem Ky(hi:i < n)(b:Bool)(z:Int)(x:Nat->Rat):(Dem.dm ⟨[i],b,z⟩).at n x=x i:=by
 show Cov.sm n (λj=>(if j∈[i] then 1 else 0)*x j)=x i;rw[Cov.sm_single hi (λj _ I=>by rw[if_neg (λh=>I (List.mem_singleton.1 h))];grind),if_pos (List.mem_singleton.2 rfl)];grind
theorem QB:(∀D∈qZ n,D.dm.meets n x)↔∀i,i < n->0<=x i:=by
 constructor
 ·intro h i hi;have:=h ⟨[i],false,0⟩ (List.mem_map.2 ⟨i,List.mem_range.2 hi,rfl⟩);have e:=Ky hi false 0 x;unfold Cov.Dm.meets at this;rw[e]at this;exact this
 ·intro h D I;obtain⟨i,hi,rfl⟩:=List.mem_map.1 I;have hi:=List.mem_range.1 hi;unfold Cov.Dm.meets;rw[Ky hi];exact h i hi
theorem Q0{L:List (List Nat)}{l:List Nat}(h:l∈L):∃r,r < L.length/\L.getD r []=l:=jL h
theorem Yc:InP es.length (yH bag es) x↔Cov.Cover bag.length es.length (inc (qG bag es)) x:=by
 unfold InP yH Cov.Cover
 rw[show(∀D∈zD (qG bag es)++qZ es.length,D.dm.meets es.length x)↔(∀D∈zD (qG bag es),D.dm.meets es.length x)/\(∀D∈qZ es.length,D.dm.meets es.length x) from
  ⟨λh=>⟨λD I=>h D (List.mem_append.2 (Or.inl I)),λD I=>h D (List.mem_append.2 (Or.inr I))⟩,λh D I=>(List.mem_append.1 I).elim (h.1 D) (h.2 D)⟩,QB,and_comm]
 refine and_congr Iff.rfl ?_;constructor
 ·intro h r hr;rw[<-zh bag es]at hr;exact h ⟨(qG bag es).getD r [],false,1⟩ (List.mem_map.2 ⟨_,zo hr,rfl⟩)
 ·intro h D I;obtain⟨l,hl,rfl⟩:=List.mem_map.1 I;obtain⟨r,hr,rfl⟩:=Q0 hl;rw[zh]at hr;exact h r hr
theorem UN:InP bag.length (kC bag es) x↔Cov.Pack es.length bag.length (inc (qc bag es)) x:=by
 unfold InP kC Cov.Pack
 rw[show(∀D∈zb (qc bag es)++qZ bag.length,D.dm.meets bag.length x)↔(∀D∈zb (qc bag es),D.dm.meets bag.length x)/\(∀D∈qZ bag.length,D.dm.meets bag.length x) from
  ⟨λh=>⟨λD I=>h D (List.mem_append.2 (Or.inl I)),λD I=>h D (List.mem_append.2 (Or.inr I))⟩,λh D I=>(List.mem_append.1 I).elim (h.1 D) (h.2 D)⟩,QB,and_comm]
 refine and_congr Iff.rfl ?_;constructor
 ·intro h r hr;rw[<-zP bag es]at hr;by_cases K:(qc bag es).getD r []=[]
  ·have:Cov.sm bag.length (λe=>inc (qc bag es) r e*x e)=0:=Cov.sm_zero (λi _=>by
    unfold inc;rw[K,if_neg Ss];grind)
   rw[this];decide
  ·exact h ⟨(qc bag es).getD r [],true,1⟩ (List.mem_map.2 ⟨_,List.mem_filter.2 ⟨zo hr,by simpa using K⟩,rfl⟩)
 ·intro h D I;obtain⟨l,hl,rfl⟩:=List.mem_map.1 I;obtain⟨r,hr,rfl⟩:=Q0 (List.mem_filter.1 hl).1;rw[zP]at hr;exact h r hr
theorem Zw(h:qY bag.length es.length (inc (qG bag es)) x):kR es.length false (yH bag es) x:=
 ⟨Yc.2 h.1,λy I=>h.2 y (Yc.1 I)⟩
theorem qBq(h:ux es.length bag.length (inc (qc bag es)) x):kR bag.length true (kC bag es) x:=
 ⟨UN.2 h.1,λy I=>h.2 y (UN.1 I)⟩
theorem Yd(p:Nat->Bool)(k:Nat):(plN p k).Nodup:=List.Pairwise.filter _ List.nodup_range
theorem Ye(I:es.length<=7):∀D∈yH bag es,zR es.length D:=by
 intro D K;rcases List.mem_append.1 K with h|h
 ·obtain⟨l,hl,rfl⟩:=List.mem_map.1 h;obtain⟨v,_,rfl⟩:=List.mem_map.1 hl;exact⟨Yd _ _,λi hi=>(xh.1 hi).1,bQ (Qd _ _) I,Or.inr rfl⟩
 ·obtain⟨i,hi,rfl⟩:=List.mem_map.1 h;exact⟨Ss,λj M=>by rw[List.mem_singleton.1 M];exact List.mem_range.1 hi,Ss,Or.inl rfl⟩
theorem qCw(M:bag.length<=6):∀D∈kC bag es,zR bag.length D:=by
 intro D I;rcases List.mem_append.1 I with h|h
 ·obtain⟨l,hl,rfl⟩:=List.mem_map.1 h;obtain⟨v,_,rfl⟩:=List.mem_map.1 (List.mem_filter.1 hl).1;exact⟨Yd _ _,λi hi=>(xh.1 hi).1,bQ (Qd _ _) Oo,Or.inr rfl⟩
 ·obtain⟨i,hi,rfl⟩:=List.mem_map.1 h;exact⟨Ss,λj K=>by rw[List.mem_singleton.1 K];exact List.mem_range.1 hi,Ss,Or.inl rfl⟩
theorem qAf(bag:List Int)(es:List (List Int)):(yH bag es).length=bag.length+es.length:=by
 simp[yH,zD,qZ,zh]
theorem qBr(bag:List Int)(es:List (List Int)):(kC bag es).length<=es.length+bag.length:=by
 have:=List.length_filter_le (λl:List Nat=>!l.isEmpty) (qc bag es);rw[zP]at this;simp only[kC,zb,qZ,List.length_append,List.length_map,List.length_range];omega
theorem Yf{y:Nat->Rat}(h:∀i,i < n->x i=y i):prs n x=prs n y:=by
 unfold prs;exact List.map_congr_left (λi hi=>by rw[h i (List.mem_range.1 hi)])
theorem qEM(h:∀i,i < n->0<=x i)(hs:Cov.sm n x<=0):∀i,i < n->x i=0:=by
 have key:∀k,k<=n->0<=Cov.sm k x:=by
  intro k I;induction k with
  |zero=>exact Rat.le_refl
  |succ k ih=>
   have K:=ih Oo;have M:=h k Oo;show 0<=Cov.sm k x+x k;grind
 have:∀k,k<=n->Cov.sm k x<=0->∀i,i < k->x i=0:=by
  intro k I;induction k with
  |zero=>intro _ i hi;omega
  |succ k ih=>
   intro hs i hi;have K:=key k Oo;have M:=h k Oo;have O:Cov.sm k x+x k<=0:=hs;by_cases e:i=k
   ·subst e;grind
   ·exact ih Oo Rr i Oo
 exact this n (bK _) hs
theorem qAg{u:Nat}{M:Nat->Nat->Rat}(h:qY 0 u M x):∀i,i < u->x i=0:=by
 have I:=h.2 (λ_=>0) ⟨λ_ _=>Rat.le_refl,λr hr=>Oo⟩;have e:Cov.sm u (λ_=>(0:Rat))=0:=Cov.sm_zero (λ_ _=>rfl);refine qEM h.1.1 ?_;rcases I with I|⟨I,_⟩
 ·rw[e]at I;grind
 ·rw[e]at I;grind
end Go.Proofs.YtkaipapdlnojiaaGreat
