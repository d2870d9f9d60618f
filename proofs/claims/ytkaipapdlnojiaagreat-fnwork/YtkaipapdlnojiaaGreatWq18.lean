import Derived.Test.YtkaipapdlnojiaaGreatWq17
set_option maxHeartbeats 40000000
set_option maxRecDepth 1000000
namespace Go.Proofs.YtkaipapdlnojiaaGreat
open Go.RowKit
variable {most:Bool}{l:List Nat}{B C i j k n p:Nat}{s:Nat->Nat}{R T:Nat->Nat->Rat}{b piv x y:Nat->Rat}
theorem QU{p q:Rat}(hp:Sm B p)(hq:Sm C q)(h:B*C<=4500000000000000000):
 (-4500000000000000000<=p.num*(q.den:Int)/\p.num*(q.den:Int)<=4500000000000000000)/\(-4500000000000000000<=q.num*(p.den:Int)/\q.num*(p.den:Int)<=4500000000000000000)/\(-4500000000000000000<=(p.den:Int)*(q.den:Int)/\(p.den:Int)*(q.den:Int)<=4500000000000000000):=by
 have I:=xS hp.1 (show((q.den:Nat):Int).natAbs<=C by rw[zr];exact hq.2) h;have K:=xS (a:=q.num) (b:=(p.den:Int)) (B:=C) (C:=B) hq.1 (by rw[zr];exact hp.2) (by rw[Nat.mul_comm];exact h);have M:=xS (a:=(p.den:Int)) (b:=(q.den:Int)) (B:=B) (C:=C) (by rw[zr];exact hp.2) (by rw[zr];exact hq.2) h;exact⟨I,K,M⟩
theorem qCa(p q:Rat)(w:World)(hp:Sm B p)(hq:Sm C q)(h:B*C<=4500000000000000000):
 Cl 47 #[.agg #[.int .i64 (p).num,.int .i64 (p).den],.agg #[.int .i64 (q).num,.int .i64 (q).den]] w λe w'=>e=.returned (.agg #[.int .i64 (p+q).num,.int .i64 (p+q).den])/\Bl w w':=by
 obtain⟨K,M,O⟩:=QU hp hq h;have I:(p.den:Int)*(q.den:Int)≠0:=Int.mul_ne_zero (by have:=p.den_nz;omega) (by have:=q.den_nz;omega);have:=J9 p.num p.den q.num q.den w K.1 K.2 M.1 M.2 O.1 O.2 I
 rw[uU (p.num*q.den+q.num*p.den) (p.den*q.den) I (p+q) (by
  rw[<-Rat.divInt_add_divInt _ _ (by have:=p.den_nz;omega) (by have:=q.den_nz;omega),Rat.num_divInt_den,Rat.num_divInt_den])]at this
 exact this
theorem qE2(p q:Rat)(w:World)(hp:Sm B p)(hq:Sm C q)(h:B*C<=4500000000000000000):
 Cl 78 #[.agg #[.int .i64 (p).num,.int .i64 (p).den],.agg #[.int .i64 (q).num,.int .i64 (q).den]] w λe w'=>e=.returned (.agg #[.int .i64 (p - q).num,.int .i64 (p - q).den])/\Bl w w':=by
 obtain⟨K,M,O⟩:=QU hp hq h;have I:(p.den:Int)*(q.den:Int)≠0:=Int.mul_ne_zero (by have:=p.den_nz;omega) (by have:=q.den_nz;omega);have:=JC p.num p.den q.num q.den w K.1 K.2 M.1 M.2 O.1 O.2 I
 rw[uU (p.num*q.den - q.num*p.den) (p.den*q.den) I (p - q) (by
  rw[<-Rat.divInt_sub_divInt _ _ (by have:=p.den_nz;omega) (by have:=q.den_nz;omega),Rat.num_divInt_den,Rat.num_divInt_den])]at this
 exact this
theorem qE3(p q:Rat)(w:World)(hp:Sm B p)(hq:Sm C q)(h:B*C<=4500000000000000000):
 Cl 79 #[.agg #[.int .i64 (p).num,.int .i64 (p).den],.agg #[.int .i64 (q).num,.int .i64 (q).den]] w λe w'=>e=.returned (.agg #[.int .i64 (p*q).num,.int .i64 (p*q).den])/\Bl w w':=by
 obtain⟨O,U,K⟩:=QU hp hq h;have I:(p.den:Int)*(q.den:Int)≠0:=Int.mul_ne_zero (by have:=p.den_nz;omega) (by have:=q.den_nz;omega);have M:=xS hp.1 hq.1 h;have:=JD p.num p.den q.num q.den w M.1 M.2 K.1 K.2 I
 rw[uU (p.num*q.num) (p.den*q.den) I (p*q) (by
  rw[<-Rat.divInt_mul_divInt,Rat.num_divInt_den,Rat.num_divInt_den])]at this
 exact this
theorem qCb(p q:Rat)(w:World)(hp:Sm B p)(hq:Sm C q)(h:B*C<=4500000000000000000)(K:q≠0):
 Cl 77 #[.agg #[.int .i64 (p).num,.int .i64 (p).den],.agg #[.int .i64 (q).num,.int .i64 (q).den]] w λe w'=>e=.returned (.agg #[.int .i64 (p / q).num,.int .i64 (p / q).den])/\Bl w w':=by
 obtain⟨M,U,h3⟩:=QU hp hq h;have V:=ks K;have I:(p.den:Int)*q.num≠0:=Int.mul_ne_zero (by have:=p.den_nz;omega) V;have O:-4500000000000000000<=(p.den:Int)*q.num/\(p.den:Int)*q.num<=4500000000000000000:=by rw[Int.mul_comm];exact U
 have:=KR p.num p.den q.num q.den w M.1 M.2 O.1 O.2 I
 rw[uU (p.num*q.den) (p.den*q.num) I (p / q) (by
  rw[<-Rat.divInt_mul_divInt,Rat.num_divInt_den,<-Rat.inv_divInt,Rat.num_divInt_den,Rat.div_def])]at this
 exact this
theorem ur(p q:Rat)(w:World)(hp:Sm B p)(hq:Sm C q)(h:B*C<=4500000000000000000):
 Cl 76 #[.agg #[.int .i64 (p).num,.int .i64 (p).den],.agg #[.int .i64 (q).num,.int .i64 (q).den]] w λe w'=>e=.returned (.bool (decide (p < q)))/\Bl w w':=by
 obtain⟨I,K,M⟩:=QU hp hq h;have:=Ka p.num p.den q.num q.den w I.1 I.2 K.1 K.2
 rw[show decide (p.num*(q.den:Int) < q.num*(p.den:Int))=decide (p < q) from by
  rw[decide_eq_decide];exact Rat.lt_iff p q|>.symm]at this
 exact this
structure Dem where
 pl:List Nat
 up:Bool
 bd:Int
def yQ:Dem:=⟨[],false,0⟩
def Dem.dm(d:Dem):Cov.Dm:=⟨λi=>if i∈d.pl then 1 else 0,d.up,((d.bd:Int):Rat)⟩
structure zR(n:Nat)(d:Dem):Prop where
 nd:d.pl.Nodup
 lt:∀i∈d.pl,i < n
 len:d.pl.length<=7
 bd:d.bd=0∨d.bd=1
def lsum(l:List Nat)(x:Nat->Rat):Nat->Rat
 |0=>0
 |k+1=>lsum l x k+x (l.getD k 0)
theorem y6(l:List Nat)(k:Nat)(h:k < l.length)(i:Nat):i∈l.take (k+1)↔i∈l.take k∨i=l.getD k 0:=by
 rw[tA,bC h,gD,bC h,List.mem_append];simp only[Option.toList_some,List.mem_singleton,Option.getD_some]
theorem K5{l:List Nat}{n:Nat}(x:Nat->Rat)(hn:l.Nodup)(hl:∀i∈l,i < n):∀k,k<=l.length->lsum l x k=Cov.sm n (λi=>(if i∈l.take k then 1 else 0)*x i)
 |0,_=>by
  symm;exact Cov.sm_zero (λi _=>Ss)
 |k+1,hk=>by
  have I:k < l.length:=Oo
  have hm:l.getD k 0∈l:=by
   rw[gD,bC I];exact gM _
  have O:l.getD k 0∉l.take k:=by
   intro h;obtain⟨j,hj,e⟩:=List.mem_iff_getElem.1 h;rw[bZ]at hj;rw[List.getElem_take,gD,bC I]at e;simp only[Option.getD_some]at e;exact(List.pairwise_iff_getElem.1 hn) j k Oo I Oo e
  show lsum l x k+x (l.getD k 0)=_;rw[K5 x hn hl k Oo]
  have e1:x (l.getD k 0)=Cov.sm n (λi=>(if i=l.getD k 0 then 1 else 0)*x i):=by
   rw[Cov.sm_single (hl _ hm) (λi _ U=>by rw[if_neg U];grind),if_pos rfl];grind
  rw[e1,<-Cov.sm_add];refine Cov.sm_congr (λi _=>?_);by_cases K:i∈l.take k
  ·have M:i≠l.getD k 0:=λe=>O (e ▸ K);rw[if_pos K,if_neg M,if_pos ((y6 l k I i).2 (Or.inl K))];grind
  ·by_cases M:i=l.getD k 0
   ·rw[if_neg K,if_pos M,if_pos ((y6 l k I i).2 (Or.inr M))];grind
   ·rw[if_neg K,if_neg M,if_neg (λh=>by rcases (y6 l k I i).1 h with V|V;exact K V;exact M V)];grind
theorem qEN{d:Dem}(x:Nat->Rat)(h:zR n d):lsum d.pl x d.pl.length=d.dm.at n x:=by
 rw[K5 x h.nd h.lt _ (bK _),tL];rfl
theorem Zz{n:Nat}{x:Nat->Rat}{l:List Nat}{D:Int}(hl:∀i∈l,i < n)(I:∀j,j < n->Cov.Whole 5040 (x j*((D:Int):Rat))):∀k,k<=l.length->Cov.Whole (k*5040) (lsum l x k*((D:Int):Rat))
 |0,_=>⟨0,by show(0:Rat)*_=_;grind,Ss⟩
 |k+1,hk=>by
  have K:l.getD k 0∈l:=by
   rw[gD,bC Oo];exact gM _
  have:=(Zz hl I k Oo).add (I _ (hl _ K));show Cov.Whole ((k+1)*5040) ((lsum l x k+x (l.getD k 0))*_);rw[show(lsum l x k+x (l.getD k 0))*((D:Int):Rat)=lsum l x k*((D:Int):Rat)+x (l.getD k 0)*((D:Int):Rat)by grind,show(k+1)*5040=k*5040+5040 by omega];exact this
theorem Parts.lsum(h:Parts n x){d:Dem}(I:zR n d)(K:k<=d.pl.length):Sm 36000 (lsum d.pl x k):=by
 obtain⟨D,M,U,O⟩:=h;have hl:=I.len;refine zO M Oo (Zz I.lt O k K) ?_;have:k*5040<=7*5040:=Nat.mul_le_mul Oo (bK _);omega
def kE(n:Nat)(d:Dem)(x:Nat->Rat):Bool:=if d.up then !decide (d.dm.b < d.dm.at n x) else !decide (d.dm.at n x < d.dm.b)
theorem UR{d:Dem}:kE n d x=true↔d.dm.meets n x:=by
 unfold kE Cov.Dm.meets;cases h:d.up
 ·rw[show d.dm.up=false from h];simp only[Bool.false_eq_true,if_false,Bool.not_eq_true',decide_eq_false_iff_not];exact Rat.not_lt
 ·rw[show d.dm.up=true from h];simp only[if_true,Bool.not_eq_true',decide_eq_false_iff_not];exact Rat.not_lt
theorem vi(w:World)(x y:Int)(t:TypeId):Two (w.alloc (.cells #[.int .i64 x,.int .i64 y] t)) w.heap.size x y:=
 ⟨by rw[cA _ _ _ _ rfl];rfl,by rw[cA _ _ _ _ rfl];rfl,World.frozen?_alloc_at _ _ _ _ rfl,World.frozen?_alloc_at _ _ _ _ rfl⟩
theorem VX(w:World)(vx u:Value)(n:Nat)(d:Dem)(x:Nat->Rat)(hx:IR w vx (prs n x))(hu:IntsAt w u d.pl)(hd:zR n d)(hp:Parts n x):
 Cl 45 #[vx,.agg #[u,.bool d.up,.int .i64 d.bd]] w λe w'=>e=.returned (.bool (kE n d x))/\Bl w w':=by
 obtain⟨a,cap,rfl,a3⟩:=hx;obtain⟨V,I,rfl,a4⟩:=hu;rw[qR]at a3 ⊢;obtain⟨m,hm⟩:∃m,m=d.pl.length:=⟨_,rfl⟩;have e0:m<=7:=by rw[hm];exact hd.len
 rw[<-hm]at a4 ⊢;have d0:=hid a3;have d6:=hid a4;have HD:=hid hd;have HP:=hid hp;have HM:=hid hm;have e3:-1<=d.bd/\d.bd<=1:=by rcases hd.bd with h|h <;> omega
 have HL:Hid (lsum d.pl x m=d.dm.at n x):=hid (by rw[hm];exact qEN x hd);clear a3 a4 hd hp hm;have a9:ArrAt (w.alloc (.cells #[.slice V m I,.bool d.up,.int .i64 d.bd] 53)) w.heap.size 3 (f3 (.slice V m I) (.bool d.up) (.int .i64 d.bd)):=qz w 3 (f3 (.slice V m I) (.bool d.up) (.int .i64 d.bd)) 53;have a5:Bl w (w.alloc (.cells #[.slice V m I,.bool d.up,.int .i64 d.bd] 53)):=(bM _ _).alloc (bK _) _;have b0:(w.alloc (.cells #[.slice V m I,.bool d.up,.int .i64 d.bd] 53)).heap.size=w.heap.size+1:=Ss;go_enter Tryz.func45,Tryz.ntmps45
 go_upto_region 2 with fail
 have a6:=a9.alloc Oo (.cells #[.int .i64 0,.int .i64 1] 28);have b7:=a5.alloc a5.size (.cells #[.int .i64 0,.int .i64 1] 28);have a7:=vi (w.alloc (.cells #[.slice V m I,.bool d.up,.int .i64 d.bd] 53)) 0 1 28;rw[b0]at a7;generalize (w.alloc (.cells #[.slice V m I,.bool d.up,.int .i64 d.bd] 53)).alloc (.cells #[.int .i64 0,.int .i64 1] 28)=W at *;obtain⟨p0,p1,p2⟩:=a6.three;have HX:=hid (And.intro a6 (And.intro b7 a7));clear a9 a5 b0 a6 b7 a7;go_wp2;go_loopw [13] (λt wr=>∃k:Nat,k<=m/\t=.int .i64 k/\Hid (ArrAt wr w.heap.size 3 (f3 (.slice V m I) (.bool d.up) (.int .i64 d.bd))/\Bl w wr/\Two wr (w.heap.size+1) (lsum d.pl x k).num (lsum d.pl x k).den)) (λt _=>m - (intOf t).toNat)
 case atStart=>exact⟨0,nZ _,rfl,HX⟩
 case round=>
  clear HX p0 p1 p2;obtain⟨k,hk,rfl,O⟩:=hrel;by_cases b9:k < m
  ·have i1:(k:Int) < (m:Int):=Oo;obtain⟨b,o,rfl,hy⟩:=d6.out k b9;have d7:k < d.pl.length:=by rw[<-HM.out];exact b9
   have c7:d.pl.getD k 0∈d.pl:=by
    rw[gD,bC d7];exact gM _
   have U:=HD.out.lt _ c7;have d8:Hid (Sm 36000 (lsum d.pl x k)):=hid (HP.out.lsum HD.out Oo);have c8:Hid (lsum d.pl x (k+1)=lsum d.pl x k+x (d.pl.getD k 0)):=hid rfl;obtain⟨j,hj⟩:∃j,j=d.pl.getD k 0:=⟨_,rfl⟩;rw[<-hj]at hy U c8;have d9:Hid (Sm 5040 (x j)):=hid (HP.out.sm U);have cy:wr.cell? ⟨b,o+k,none⟩=some (.int .i64 (j:Nat)):=(O.out.2.1.cell (p:=⟨b,o+k,none⟩) (bL w _ hy)).trans hy;rcases d0.out with h0|⟨b2,o2,rfl,M⟩
   ·omega
   ·obtain⟨e1,e2⟩:=M j U;rw[vJ U]at e1 e2;have x1:wr.cell? ⟨b2,o2+j*2,none⟩=some (.int .i64 (x j).num):=(O.out.2.1.cell (p:=⟨b2,o2+j*2,none⟩) (bL w _ e1)).trans e1;have x2:wr.cell? ⟨b2,o2+j*2+1,none⟩=some (.int .i64 (x j).den):=(O.out.2.1.cell (p:=⟨b2,o2+j*2+1,none⟩) (bL w _ e2)).trans e2;obtain⟨t1,t2,t3,t4⟩:=O.out.2.2;have HX:=O;have j1:(j:Int) < (n:Int):=Oo;clear O hy e1 e2 M hj;generalize hq:lsum d.pl x k=q at *;have a8:w.heap.size+1 < wr.heap.size:=bL wr _ t1;go_wp2_with fail
    go_region_law (first|(go_simp;go_at_call 47;refine(qCa q (x j) _ d8.out d9.out Dd).mono ?_;rintro e w2 ⟨rfl,K⟩;have hb:=qQ K;have hT:=HX.out.2.2.below a8 hb;obtain⟨s1,s2,s3,s4⟩:=hT))
    all_goals
     have HF:Hid (ArrAt ((w2.setCell ⟨w.heap.size+1,0,none⟩ (.int .i64 (q+x j).num)).setCell ⟨w.heap.size+1,1,none⟩ (.int .i64 (q+x j).den)) w.heap.size 3 (f3 (.slice (some ⟨b,o,none⟩) m I) (.bool d.up) (.int .i64 d.bd))/\Bl w ((w2.setCell ⟨w.heap.size+1,0,none⟩ (.int .i64 (q+x j).num)).setCell ⟨w.heap.size+1,1,none⟩ (.int .i64 (q+x j).den))/\Two ((w2.setCell ⟨w.heap.size+1,0,none⟩ (.int .i64 (q+x j).num)).setCell ⟨w.heap.size+1,1,none⟩ (.int .i64 (q+x j).den)) (w.heap.size+1) (lsum d.pl x (k+1)).num (lsum d.pl x (k+1)).den):=hid ⟨((HX.out.1.below Oo hb).move (bE _ _ _ _ (by show w.heap.size≠w.heap.size+1;omega))).move (bE _ _ _ _ (by show w.heap.size≠w.heap.size+1;omega)),((bt HX.out.2.1 hb).setCell (by show w.heap.size<=w.heap.size+1;omega) _).setCell (by show w.heap.size<=w.heap.size+1;omega) _,by rw[c8.out];exact(HX.out.2.2.below a8 hb).set _ _⟩
     clear hb K s1 s2 s3 s4
     go_wp2
     go_roundw
     case rel=>exact⟨k+1,Oo,Gg,HF⟩
     case measure=>simp[intOf];omega
  ·obtain rfl:k=m:=Oo;have i1:¬((k:Int) < (k:Int)):=Oo;obtain⟨p0,p1,p2⟩:=O.out.1.three;obtain⟨t1,t2,-,-⟩:=O.out.2.2;rw[HL.out]at t1 t2;have hS:Sm 36000 (d.dm.at n x):=by rw[<-HL.out];exact HP.out.lsum HD.out (by rw[<-HM.out];exact bK _)
   have HB:=hid O.out.2.1;have a8:w.heap.size+1 < wr.heap.size:=bL wr _ t1;have c9:Sm 36000 (((d.bd:Int):Rat)):=⟨by show d.bd.natAbs<=36000;omega,by show 1<=36000;omega⟩;have e4:w.heap.size < wr.heap.size:=Oo;clear O;cases hup:d.up
   ·rw[hup]at p1;have HR:Hid (kE n d x=!decide (d.dm.at n x < ((d.bd:Int):Rat))):=hid (by unfold kE;rw[hup];rfl);have KL:Hid (∀W,Cl 76 #[.agg #[.int .i64 (d.dm.at n x).num,.int .i64 (d.dm.at n x).den],.agg #[.int .i64 d.bd,.int .i64 1]] W λe w'=>e=.returned (.bool (decide (d.dm.at n x < ((d.bd:Int):Rat))))/\Bl W w'):=hid (λW=>ur _ _ W hS c9 Dd);generalize (d.dm.at n x).num=nu at *;generalize (d.dm.at n x).den=de at *;go_wp2_with (first|(go_at_call 76;refine(KL.out _).mono ?_;rintro e w2 ⟨rfl,K⟩))
    go_ret;exact⟨qI HR.out.symm,bt (HB.out.alloc HB.out.size _) K⟩
   ·rw[hup]at p1;have HR:Hid (kE n d x=!decide (((d.bd:Int):Rat) < d.dm.at n x)):=hid (by unfold kE;rw[hup];rfl);have KL:Hid (∀W,Cl 76 #[.agg #[.int .i64 d.bd,.int .i64 1],.agg #[.int .i64 (d.dm.at n x).num,.int .i64 (d.dm.at n x).den]] W λe w'=>e=.returned (.bool (decide (((d.bd:Int):Rat) < d.dm.at n x)))/\Bl W w'):=hid (λW=>ur _ _ W c9 hS Dd);generalize (d.dm.at n x).num=nu at *;generalize (d.dm.at n x).den=de at *;go_wp2_with (first|(go_at_call 76;refine(KL.out _).mono ?_;rintro e w2 ⟨rfl,K⟩))
    go_ret;exact⟨qI HR.out.symm,bt (HB.out.alloc HB.out.size _) K⟩
def uP(x y:Nat->Rat):Nat->Nat->Bool
 |0,_=>false
 |f+1,k=>if x k < y k then true else if y k < x k then false else uP x y f (k+1)
def uQ(n:Nat)(most:Bool)(x y:Nat->Rat):Bool:=if Cov.sm n x < Cov.sm n y then !most else if Cov.sm n y < Cov.sm n x then most else uP x y n 0
theorem Vw{x y:Nat->Rat}:∀(f k:Nat),uP x y f k=true↔Cov.Lex ((List.range' k f).map x) ((List.range' k f).map y)/\¬Cov.Lex ((List.range' k f).map y) ((List.range' k f).map x)
 |0,k=>by
  constructor
  ·intro h;cases h
  ·rintro⟨_,h⟩;exact absurd trivial h
 |f+1,k=>by
  have U:=Vw (x:=x) (y:=y) f (k+1);rw[List.range'_succ,List.map_cons,List.map_cons];show(if x k < y k then true else if y k < x k then false else uP x y f (k+1))=true↔(x k < y k∨(x k=y k/\Cov.Lex _ _))/\¬(y k < x k∨(y k=x k/\Cov.Lex _ _));by_cases I:x k < y k
  ·rw[if_pos I];refine⟨λ_=>⟨Or.inl I,?_⟩,λ_=>rfl⟩;rintro (h|⟨h,_⟩) <;> grind
  ·rw[if_neg I];by_cases K:y k < x k
   ·rw[if_pos K];refine⟨(λh=>by cases h),?_⟩;rintro⟨h|⟨h,_⟩,_⟩ <;> grind
   ·rw[if_neg K,U];have e:x k=y k:=Rr;constructor
    ·rintro⟨M,O⟩;refine⟨Or.inr ⟨e,M⟩,?_⟩;rintro (h|⟨_,h⟩)
     ·exact K h
     ·exact O h
    ·rintro⟨M,O⟩;refine⟨?_,λh=>O (Or.inr ⟨e.symm,h⟩)⟩;rcases M with h|⟨_,h⟩
     ·exact absurd h I
     ·exact h
def zF(most:Bool):Rat:=if most then -1 else 1
theorem Vx:uQ n most x y=true↔Cov.Lex (Cov.key (zF most) n x) (Cov.key (zF most) n y)/\¬Cov.Lex (Cov.key (zF most) n y) (Cov.key (zF most) n x):=by
 unfold Cov.key;have M:=Vw (x:=x) (y:=y) n 0;rw[<-List.range_eq_range']at M;show uQ n most x y=true↔(zF most*Cov.sm n x < zF most*Cov.sm n y∨(zF most*Cov.sm n x=zF most*Cov.sm n y/\Cov.Lex _ _))/\¬(zF most*Cov.sm n y < zF most*Cov.sm n x∨(zF most*Cov.sm n y=zF most*Cov.sm n x/\Cov.Lex _ _));unfold uQ;by_cases O:Cov.sm n x < Cov.sm n y
 ·rw[if_pos O];cases most
  ·have:zF false=1:=rfl;rw[this];refine⟨λ_=>⟨Or.inl Rr,?_⟩,λ_=>rfl⟩;rintro (h|⟨h,_⟩) <;> grind
  ·have:zF true=-1:=rfl;rw[this];refine⟨(λh=>by cases h),?_⟩;rintro⟨h|⟨h,_⟩,_⟩ <;> grind
 ·rw[if_neg O];by_cases U:Cov.sm n y < Cov.sm n x
  ·rw[if_pos U];cases most
   ·have:zF false=1:=rfl;rw[this];refine⟨(λh=>by cases h),?_⟩;rintro⟨h|⟨h,_⟩,_⟩ <;> grind
   ·have:zF true=-1:=rfl;rw[this];refine⟨λ_=>⟨Or.inl Rr,?_⟩,λ_=>rfl⟩;rintro (h|⟨h,_⟩) <;> grind
  ·rw[if_neg U,M];have e:Cov.sm n x=Cov.sm n y:=Rr;rw[e];constructor
   ·rintro⟨I,K⟩;refine⟨Or.inr ⟨rfl,I⟩,?_⟩;rintro (h|⟨_,h⟩)
    ·grind
    ·exact K h
   ·rintro⟨I,K⟩;refine⟨?_,λh=>K (Or.inr ⟨rfl,h⟩)⟩;rcases I with h|⟨_,h⟩
    ·grind
    ·exact h
theorem jA(w:World)(v:Value)(u:Nat)(x:Nat->Rat)(K:u<=7)(h:IR w v (prs u x))(hp:Parts u x):
 Cl 19 #[v] w λe w'=>e=.returned (.agg #[.int .i64 (Cov.sm u x).num,.int .i64 (Cov.sm u x).den])/\Bl w w':=by
 have:=Kh w v (prs u x) h (by rw[qR];omega) (λk=>((Cov.sm k x).num,((Cov.sm k x).den:Int))) rfl (λk W I=>by
  rw[qR]at I;rw[vJ I];exact qCa (Cov.sm k x) (x k) W (hp.sum Oo K) (hp.sm I) Dd)
 rw[qR]at this;exact this
def zN(n:Nat)(L:List Dem):Nat->Nat->Rat:=λi j=>if j=n then (((L.getD i yQ).bd:Int):Rat) else if j∈(L.getD i yQ).pl then 1 else 0
theorem zo{α:Type}{l:List α}{d:α}(h:i < l.length):l.getD i d∈l:=by
 rw[gD,bC h];exact gM _
theorem Ke{L:List Dem}(h:∀D∈L,zR n D){r:Nat}(hr:r < L.length):Cov.Whole 1 (zN n L r j):=by
 unfold zN;split
 ·refine⟨_,rfl,?_⟩;rcases (h _ (zo (d:=yQ) hr)).bd with e|e <;> rw[e] <;> decide
 ·split
  ·exact⟨1,rfl,Dd⟩
  ·exact⟨0,rfl,Dd⟩
theorem ZV{L:List Dem}(r:Nat)(x:Nat->Rat):Cov.sm n (λj=>zN n L r j*x j)=(L.getD r yQ).dm.at n x:=
 Cov.sm_congr (λj I=>by unfold zN;rw[if_neg Oo];rfl)
theorem qDl{L:List Dem}(r:Nat):zN n L r n=(L.getD r yQ).dm.b:=if_pos rfl
section
variable {n c:Nat} {R0 R T:Nat->Nat->Rat} {B s:Nat->Nat} {piv:Nat->Rat}
theorem qDm(h:Cov.GJ n c R0 R T B s piv)(I:∀j,j<=n->∀r,r < n->Cov.Whole 1 (R0 r j))(M:n<=7):
 ∃D:Int,D≠0/\D.natAbs<=5040/\∀i,i < n->∀j,j<=n+n->Cov.Whole 5040 (T i j*D):=by
 obtain⟨D,O,hD,U⟩:=h.inv.small (λj K r hr=>by
  unfold Cov.solveA;split
  ·exact I j Oo r hr
  ·split
   ·split
    ·exact⟨1,rfl,Dd⟩
    ·exact⟨0,rfl,Dd⟩
   ·exact I n (bK _) r hr)
 have V:=Zh M;exact⟨D,O,Oo,λi hi j K=>(U i hi j K).mono V⟩
theorem qD5(h:j<=n):Cov.cl n j<=n+n:=by
 unfold Cov.cl;split <;> omega
theorem qFx(h:Cov.GJ n c R0 R T B s piv)(I:∀j,j<=n->∀r,r < n->Cov.Whole 1 (R0 r j))(K:n<=7)(hi:i < n)(M:j<=n+n):Sm 5040 (T i j):=by
 obtain⟨D,O,U,V⟩:=qDm h I K;exact zO O U (V i hi j M) (bK _)
theorem qCV(h:Cov.GJ n c R0 R T B s piv)(I:n<=7)(hi:i < c):Sm 5040 (piv i):=by
 obtain⟨D,K,U,M⟩:=h.pivsm i hi;have O:=Zh I;exact zO K Oo M O
theorem qCW(h:Cov.GJ n c R0 R T B s piv)(K:∀j,j<=n->∀r,r < n->Cov.Whole 1 (R0 r j))(M:n<=7)(O:c<=p)(hp:p < n)(I:j<=n):Sm 5040 (R p j):=by
 rw[h.rowt p O hp j I];exact qFx h K M (h.lt p hp) (qD5 I)
theorem qCX(h:Cov.GJ n c R0 R T B s piv)(O:∀j,j<=n->∀r,r < n->Cov.Whole 1 (R0 r j))(K:n<=7)(hi:i < n)(M:j<=n):Sm 25401600 (R i j):=by
 by_cases I:i < c
 ·rw[h.rowd i I j M];exact((qCV h K I).mul (qFx h O K (h.lt i hi) (qD5 M))).mono Dd
 ·exact(qCW h O K Oo hi M).mono Dd
theorem qGE(h:Cov.GJ n c R0 R T B s piv)(hw:∀j,j<=n->∀r,r < n->Cov.Whole 1 (R0 r j))(hn:n<=7)(M:c<=p)(hp:p < n)(O:R p c≠0)(U:k < n):Sm 25401600 (R k c / R p c):=by
 obtain⟨D,h0,hD,hW⟩:=qDm h hw hn;have I:Cov.cl n c=c:=if_neg Oo;have e1:R p c=T (s p) c:=by rw[h.rowt p M hp c Oo,I]
 have hq:∀a,a < n->Sm 5040 (T a c / T (s p) c):=by
  intro a ha;obtain⟨z1,e2,b1⟩:=hW a ha c Oo;obtain⟨z2,V,b2⟩:=hW (s p) (h.lt p hp) c Oo;have hT:T (s p) c≠0:=by rw[<-e1];exact O
  have a2:((D:Int):Rat)≠0:=by
   intro e;exact h0 (by exact_mod_cast e)
  have hz:z2≠0:=by
   intro e;rw[e]at V;have:T (s p) c*((D:Int):Rat)=0:=V;rcases Rat.mul_eq_zero.1 this with e4|e4
   ·exact hT e4
   ·exact a2 e4
  refine zO (D:=z2) hz b2 (Z:=5040) ⟨z1,?_,b1⟩ (bK _);rw[<-e2,<-V];grind
 rw[e1];by_cases K:k < c
 ·rw[h.rowd k K c Oo,I,show piv k*T (s k) c / T (s p) c=piv k*(T (s k) c / T (s p) c)by grind];exact((qCV h hn K).mul (hq _ (h.lt k U))).mono Dd
 ·rw[h.rowt k Oo U c Oo,I];exact(hq _ (h.lt k U)).mono Dd
theorem qDn(h:Cov.GJ n c R0 R T B s piv)(I:∀j,j<=n->∀r,r < n->Cov.Whole 1 (R0 r j))(K:n<=7):Parts n (λi=>T (s i) (n+n)):=by
 obtain⟨D,M,O,U⟩:=qDm h I K;exact⟨D,M,O,λj V=>U _ (h.lt j V) _ (bK _)⟩
end
def YC(n:Nat)(L:List Dem)(x:Nat->Rat):Prop:=∀y,(∀D∈L,D.dm.at n y=D.dm.b)->∀i,i < n->y i=x i
theorem jL{α:Type}{L:List α}{D d:α}(h:D∈L):∃r,r < L.length/\L.getD r d=D:=by
 obtain⟨r,hr,e⟩:=List.mem_iff_getElem.1 h;exact⟨r,hr,by rw[gD,bC hr,<-e];rfl⟩
theorem qEx{L:List Dem}{B:Nat->Nat}(K:L.length=n)(h:Cov.GJ n n (zN n L) R T B s piv):YC n L (λi=>T (s i) (n+n)):=by
 intro y I i hi;refine(Cov.gj_end h).2 y (λr hr=>?_) i hi;rw[ZV,qDl];exact I _ (zo Oo)
theorem qBK{c:Nat}{L:List Dem}{B:Nat->Nat}(hL:L.length=n)(h:Cov.GJ n c (zN n L) R T B s piv)(I:c < n)(K:∀p,c<=p->p < n->R p c=0):¬Cov.Kern n (L.map Dem.dm):=by
 intro M;obtain⟨d,O,U⟩:=Cov.gj_stuck h I K
 have:=M d (λD V=>by
  obtain⟨E,hE,rfl⟩:=List.mem_map.1 V;obtain⟨r,hr,e⟩:=jL (d:=yQ) hE;have:=U r Oo;rw[ZV,e]at this;exact this) c I
 rw[O]at this;exact absurd this Dd
theorem qEy{L:List Dem}{B:Nat->Nat}(hL:L.length=n)(h:Cov.GJ n n (zN n L) R T B s piv):Cov.Kern n (L.map Dem.dm):=by
 intro d hd i hi
 have K:∀i,i < n->∀j,j < n->T (s i) j=if i=j then 1 else 0:=by
  intro i hi j I;have:=h.inv.unit (s i) (h.lt i hi) (s j) (h.lt j I);rw[h.done j I]at this;rw[this];by_cases e:i=j
  ·rw[if_pos e,if_pos (by rw[e])]
  ·rw[if_neg e,if_neg (λM=>e (h.inj i hi j I M))]
 have hh:Cov.Hom n (n+n) (Cov.solveA n (zN n L)) (λj=>if j < n then d j else 0):=by
  intro r hr;rw[Cov.sm_app]
  have O:Cov.sm n (λj=>(if j < n then d j else 0)*Cov.solveA n (zN n L) j r)=Cov.sm n (λj=>zN n L r j*d j):=Cov.sm_congr (λj I=>by
   unfold Cov.solveA;rw[if_pos I,if_pos I];grind)
  have M:Cov.sm n (λi=>(if n+i < n then d (n+i) else 0)*Cov.solveA n (zN n L) (n+i) r)=0:=Cov.sm_zero (λi _=>by rw[if_neg Oo];grind);rw[O,M,ZV,hd _ (List.mem_map.2 ⟨_,zo Oo,rfl⟩)];grind
 have V:=h.inv.hom_rows hh (s i) (h.lt i hi);rw[Cov.sm_app]at V
 have O:Cov.sm n (λj=>T (s i) j*(if j < n then d j else 0))=d i:=by
  rw[Cov.sm_single (k:=i) hi]
  ·rw[K i hi i hi,if_pos rfl,if_pos hi];grind
  ·intro j I U;rw[K i hi j I,if_neg (λe=>U e.symm)];grind
 have M:Cov.sm n (λk=>T (s i) (n+k)*(if n+k < n then d (n+k) else 0))=0:=Cov.sm_zero (λk _=>by rw[if_neg Oo];grind);rw[O,M]at V;grind
structure kR(n:Nat)(most:Bool)(all:List Dem)(x:Nat->Rat):Prop where
 meets:∀D∈all,D.dm.meets n x
 least:∀y,(∀D∈all,D.dm.meets n y)->Cov.Lex (Cov.key (zF most) n x) (Cov.key (zF most) n y)
def Compl(n:Nat)(all:List Dem)(x:Nat->Rat)(k:Nat)(ch:List Dem):Prop:=
 ∃S,S.Sublist (all.drop k)/\ch.length+S.length=n/\(∀D∈ch++S,D.dm.at n x=D.dm.b)/\Cov.Kern n ((ch++S).map Dem.dm)
def InP(n:Nat)(all:List Dem)(b:Nat->Rat):Prop:=∀D∈all,D.dm.meets n b
def QT(n:Nat)(x:Nat->Rat):Option (Nat->Rat)->Prop
 |none=>False
 |some b=>∀i,i < n->b i=x i
theorem Kf{all:List Dem}(h:kR n most all x):Compl n all x 0 []:=by
 obtain⟨S,K,M,O,U⟩:=Cov.corner_exists (v:=zF most) (all.map Dem.dm) x (λD I=>by
  obtain⟨E,V,rfl⟩:=List.mem_map.1 I;exact h.meets E V) (λy hy=>h.least y (λD I=>hy _ (List.mem_map.2 ⟨D,I,rfl⟩)))
 obtain⟨S',hs,rfl⟩:=List.sublist_map_iff.1 K;refine⟨S',by rw[List.drop_zero];exact hs,by simpa using M,λD I=>?_,by simpa using U⟩;exact O _ (List.mem_map.2 ⟨D,by simpa using I,rfl⟩)
theorem qBL{all:List Dem}{I:List Dem}(M:k < all.length)(h:Compl n all x k I):
 Compl n all x (k+1) (I++[all.getD k yQ])∨Compl n all x (k+1) I:=by
 obtain⟨S,O,U,V,h4⟩:=h;rw[List.drop_eq_getElem_cons M]at O;have e:all.getD k yQ=all[k]:=by rw[gD,bC M];rfl
 rw[e];rcases List.sublist_cons_iff.1 O with K|⟨S',rfl,K⟩
 ·exact Or.inr ⟨S,K,U,V,h4⟩
 ·refine Or.inl ⟨S',K,by simp at U ⊢;omega,λD hD=>V D (by simpa using hD),by simpa using h4⟩
theorem qBM{all:List Dem}{I:List Dem}(h:Compl n all x k I)(O:all.length < k+n - I.length)(K:k<=all.length):False:=by
 obtain⟨S,M,U,-,-⟩:=h;have:=M.length_le;rw[List.length_drop]at this;omega
theorem XM{all:List Dem}{I:List Dem}(h:Compl n all x k I)(O:I.length=n):(∀D∈I,D.dm.at n x=D.dm.b)/\Cov.Kern n (I.map Dem.dm):=by
 obtain⟨S,U,V,K,M⟩:=h;have:S=[]:=List.length_eq_zero_iff.1 Oo;subst this;rw[List.append_nil]at K M;exact⟨K,M⟩
theorem JQ{v:Rat}(h:∀i,i < n->b i=x i):Cov.key v n b=Cov.key v n x:=Cov.key_congr h
theorem qCY{all:List Dem}(hs:kR n most all x)(M:InP n all y)(I:uQ n most y b=true)(hb:QT n x (some b)):QT n x (some y):=by
 have K:=(Vx.1 I);have e:=JQ (v:=zF most) hb;rw[e]at K;exact absurd (hs.least y M) K.2
theorem qCZ{all:List Dem}(hs:kR n most all x)(hb:InP n all b)(I:uQ n most y b=false)(O:∀i,i < n->y i=x i):QT n x (some b):=by
 have e:=JQ (v:=zF most) O
 have K:¬(Cov.Lex (Cov.key (zF most) n y) (Cov.key (zF most) n b)/\¬Cov.Lex (Cov.key (zF most) n b) (Cov.key (zF most) n y)):=λh=>by
  rw[Vx.2 h]at I;cases I
 rw[e]at K;have M:=hs.least b hb;have U:Cov.Lex (Cov.key (zF most) n b) (Cov.key (zF most) n x):=Classical.byContradiction λh=>K ⟨M,h⟩;exact Cov.key_inj (Cov.Lex.antisymm U M)
end Go.Proofs.YtkaipapdlnojiaaGreat
