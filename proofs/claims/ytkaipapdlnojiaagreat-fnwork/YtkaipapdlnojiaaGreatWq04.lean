import Derived.BigQuiet
import Derived.Deep.QuietTactic
import Derived.Deep.RegionWith
import Derived.Handy
import Derived.WalkLawsBesides
import Derived.WalkSpells
import Derived.Test.YtkaipapdlnojiaaGreatWq03
set_option maxHeartbeats 40000000
set_option maxRecDepth 1000000
namespace Go.Proofs.YtkaipapdlnojiaaGreat
open Go.RowKit
variable {a b:Int}{B C:Nat}{o p:Obj}{q:Rat}{w w':World}
theorem hid{p:Prop}(h:p):Hid p:=h
theorem qv{k:IntKind}(h:a=b):Ending.returned (.int k a)=.returned (.int k b):=by rw[h]
theorem qCN(a b:Int)(w:World)(ha:-9000000000000000000<=a)(O:a<=9000000000000000000)(hb:-9000000000000000000<=b)(U:b<=9000000000000000000):
 Cl 117 #[.int .i64 a,.int .i64 b] w λe w'=>e=.returned (.int .i64 (Int.gcd a b))/\Bl w w':=by
 go_enter Tryz.func117,Tryz.ntmps117
 go_wp2;go_loopw [0,1] (λx y wr=>∃K M:Int,x=.int .i64 K/\y=.int .i64 M/\-9000000000000000000<=K/\K<=9000000000000000000/\-9000000000000000000<=M/\M<=9000000000000000000/\Hid (Int.gcd K M=Int.gcd a b)/\Bl w wr) (λ_ y _=>(intOf y).natAbs)
 case atStart=>exact⟨a,b,rfl,rfl,ha,O,hb,U,hid rfl,bM _ _⟩
 case round=>
  obtain⟨x,y,rfl,rfl,hx,a3,hy,V,hg,I⟩:=hrel;by_cases h0:y=0
  ·subst h0;have hz:=RatM.gcd_zero x;rw[hg.out]at hz;clear hg;have HZ:=hid hz;clear hz;go_wp2
   all_goals
    go_ret
    exact⟨qv (by rw[HZ.out];omega),I⟩
  ·have a4:(y == 0)=false:=by simpa using h0
   have a2:=RatM.natAbs_tmod_lt x y h0;have hs:=hid ((RatM.gcd_step x y).trans hg.out);go_wp2;go_quiet (fail)
   go_roundw
   case rel=>(repeat apply Exists.intro);exact⟨⟨y,x.tmod y,rfl,rfl,hy,V,Oo,Oo,hs,below_drewN I _⟩,rfl⟩
   case measure=>simpa[intOf]using a2
theorem JB(a b g:Int)(w:World)(M:-9000000000000000000<=a)(I:a<=9000000000000000000)(hb:-9000000000000000000<=b)(K:b<=9000000000000000000)(O:(Int.gcd a b:Int)=g):
 Cl 117 #[.int .i64 a,.int .i64 b] w λe w'=>e=.returned (.int .i64 g)/\Bl w w':=by
 subst O;exact qCN a b w M I hb K
theorem xP{W w1:World}(hb:Bl W w1):(∀b o,b < W.heap.size->w1.cell? ⟨b,o,none⟩=W.cell? ⟨b,o,none⟩)/\(∀b o,b < W.heap.size->w1.frozen? ⟨b,o,none⟩=W.frozen? ⟨b,o,none⟩):=
 ⟨λb o h=>hb.cell (p:=⟨b,o,none⟩) h,λb o h=>hb.frozen (p:=⟨b,o,none⟩) h⟩
theorem below_alloc1(hb:Below (w.alloc o).heap.size (w.alloc o) w'):Bl w w':=
 ((bM _ _).alloc (bK _) _).trans (hb.mono Ss)
theorem Qi(n g:Int)(K:-9000000000000000000<=n)(I:n<=9000000000000000000):-9000000000000000000<=n.tdiv g/\n.tdiv g<=9000000000000000000:=by
 have:=RatM.tdiv_abs_le n g;omega
theorem xZ(n d:Int)(w:World)(hn:-9000000000000000000<=n)(V:n<=9000000000000000000)(hd:-9000000000000000000<=d)(a2:d<=9000000000000000000)(h0:d≠0):
 Cl 118 #[.int .i64 n,.int .i64 d] w λe w'=>e=.returned (.agg #[.int .i64 (RatM.frN n d),.int .i64 (RatM.frD n d)])/\Bl w w':=by
 have a3:=RatM.gcd_pos n d h0;obtain⟨q1,q2⟩:=Qi n (Int.gcd n d) hn V;obtain⟨q3,q4⟩:=Qi d (Int.gcd n d) hd a2;by_cases I:d < 0
 ·have M:RatM.frN n d=-(n.tdiv (Int.gcd n d)):=by unfold RatM.frN;rw[if_pos I,Int.neg_tdiv]
  have O:RatM.frD n d=-(d.tdiv (Int.gcd n d)):=by unfold RatM.frD;rw[if_pos I,Int.neg_tdiv]
  rw[M,O];clear M O;have HG:Hid ((Int.gcd (-n) (-d):Int)=(Int.gcd n d:Int)):=by rw[RatM.gcd_neg_neg];exact rfl
  generalize (Int.gcd n d:Int)=g at *;have a4:(g == 0)=false:=by simp;omega
  go_enter Tryz.func118,Tryz.ntmps118
  go_wp2_with fail
  refine(JB (-n) (-d) g _ Oo Oo Oo Oo HG.out).mono ?_;rintro e w' ⟨rfl,hb⟩;obtain⟨U,hf⟩:=xP hb;have c0:w'.cell? ⟨w.heap.size,0,none⟩=some (.int .i64 0):=(U _ 0 Ss).trans (by simp[go_sem]);have c1:w'.cell? ⟨w.heap.size,1,none⟩=some (.int .i64 0):=(U _ 1 Ss).trans (by simp[go_sem]);have hz:=hb.size;simp at hz;go_wp2_with fail
  go_region
  go_wp2;refine bodyPost_ret (v:=.agg #[.int .i64 _,.int .i64 _]) (by simp[results,Tryz.results118,go_sem,c0,c1];exact⟨rfl,rfl⟩) rfl ?_;exact⟨rfl,((((below_alloc1 hb).setCell (bK _) _).setCell (bK _) _)).drew⟩
 ·have M:RatM.frN n d=n.tdiv (Int.gcd n d):=by unfold RatM.frN;rw[if_neg I]
  have O:RatM.frD n d=d.tdiv (Int.gcd n d):=by unfold RatM.frD;rw[if_neg I]
  rw[M,O];clear M O;obtain⟨g,K⟩:∃g:Int,(Int.gcd n d:Int)=g:=⟨_,rfl⟩;rw[K]at a3 q1 q2 q3 q4 ⊢;have HG:=hid K;clear K;have a4:(g == 0)=false:=by simp;omega
  go_enter Tryz.func118,Tryz.ntmps118
  go_wp2_with fail
  refine(JB n d g _ Oo Oo Oo Oo HG.out).mono ?_;rintro e w' ⟨rfl,hb⟩;obtain⟨U,hf⟩:=xP hb;have c0:w'.cell? ⟨w.heap.size,0,none⟩=some (.int .i64 0):=(U _ 0 Ss).trans (by simp[go_sem]);have c1:w'.cell? ⟨w.heap.size,1,none⟩=some (.int .i64 0):=(U _ 1 Ss).trans (by simp[go_sem]);have hz:=hb.size;simp at hz;go_wp2_with fail
  go_region
  go_wp2;refine bodyPost_ret (v:=.agg #[.int .i64 _,.int .i64 _]) (by simp[results,Tryz.results118,go_sem,c0,c1];exact⟨rfl,rfl⟩) rfl ?_;exact⟨rfl,((((below_alloc1 hb).setCell (bK _) _).setCell (bK _) _)).drew⟩
theorem qA8(n:Int)(w:World)(I:-1000000<=n)(K:n<=1000000):
 Cl 89 #[.int .i64 n] w λe w'=>e=.returned (.bool true)/\w'=w:=by
 go_enter Tryz.func89,Tryz.ntmps89
 go_wp2;go_ret;exact⟨rfl,rfl⟩
theorem Ys(n d:Int)(w:World)(I:-1000000<=n)(K:n<=1000000)(M:-1000000<=d)(O:d<=1000000):
 Cl 52 #[.agg #[.int .i64 n,.int .i64 d]] w λe w'=>e=.returned (.agg #[.int .i64 n,.int .i64 d])/\Bl w w':=by
 go_enter Tryz.func52,Tryz.ntmps52
 go_wp2;refine bodyPost_ret (v:=.agg #[.int .i64 n,.int .i64 d]) (by simp[results,Tryz.results52,go_sem]) rfl ⟨rfl,?_⟩;go_grown
theorem jI(n:Int)(w:World)(I:-9000000000000000000<=n)(K:n<=9000000000000000000):
 Cl 113 #[.int .i64 n] w λe w'=>e=.returned (.int .i64 n.natAbs)/\w'=w:=by
 by_cases h:n < 0
 ·go_enter Tryz.func113,Tryz.ntmps113
  go_wp2;go_ret;exact⟨qv Oo,rfl⟩
 ·go_enter Tryz.func113,Tryz.ntmps113
  go_wp2;go_ret;exact⟨qv Oo,rfl⟩
theorem XI:∀(k:Nat) (a b:Int) (w:World),b.natAbs < k->0<=a->a<=9000000000000000000->0<=b->b<=9000000000000000000->
 Cl 112 #[.int .i64 a,.int .i64 b] w λe w'=>e=.returned (.int .i64 (Int.gcd a b))/\w'=w
 |0,_,_,_,h,_,_,_,_=>absurd h Oo
 |k+1,a,b,w,hk,ha,ha',hb,hb'=>by
  by_cases h:b=0
  ·subst h;have O:=hid (RatM.gcd_zero a);go_enter Tryz.func112,Tryz.ntmps112
   go_wp2;go_ret;exact⟨qv (by rw[O.out];omega),rfl⟩
  ·have U:(b == 0)=false:=by simpa using h
   have M:a.tmod b=a % b:=Int.tmod_eq_emod_of_nonneg ha;have K:=RatM.natAbs_tmod_lt a b h;have hs:=RatM.gcd_step a b;have I:0<=a.tmod b:=Int.tmod_nonneg _ ha;rw[M]at K hs I;clear M;have V:=hid hs;clear hs;have IH:=hid (XI k b (a % b) w Oo hb hb' I Oo);go_enter Tryz.func112,Tryz.ntmps112
   go_wp2_with fail
   refine IH.out.mono ?_;rintro e w' ⟨rfl,rfl⟩;go_wp2;go_ret;exact⟨qv (by rw[V.out]),rfl⟩
theorem qAI(a b g:Int)(w:World)(M:0<=a)(I:a<=9000000000000000000)(hb:0<=b)(K:b<=9000000000000000000)(O:(Int.gcd a b:Int)=g):
 Cl 112 #[.int .i64 a,.int .i64 b] w λe w'=>e=.returned (.int .i64 g)/\w'=w:=by
 subst O;exact XI (b.natAbs+1) a b w Oo M I hb K
theorem ym(n d:Int)(w:World)(hn:-9000000000000000000<=n)(K:n<=9000000000000000000)(hd:-9000000000000000000<=d)(M:d<=9000000000000000000)(h0:d≠0):
 Cl 80 #[.int .i64 n,.int .i64 d] w λe w'=>e=.returned (.agg #[.int .i64 (RatM.frN n d),.int .i64 (RatM.frD n d)])/\Bl w w':=by
 have a3:=RatM.gcd_pos n d h0;have a4:=RatM.gcd_le n d h0;obtain⟨q1,q2⟩:=Qi n (Int.gcd n d) hn K;obtain⟨q3,q4⟩:=Qi d (Int.gcd n d) hd M;have HG:Hid ((Int.gcd (n.natAbs:Int) (d.natAbs:Int):Int)=(Int.gcd n d:Int)):=by rw[RatM.gcd_abs];exact rfl
 by_cases I:d < 0
 ·have O:RatM.frN n d=-(n.tdiv (Int.gcd n d)):=by unfold RatM.frN;rw[if_pos I,Int.neg_tdiv]
  have U:RatM.frD n d=-(d.tdiv (Int.gcd n d)):=by unfold RatM.frD;rw[if_pos I,Int.neg_tdiv]
  rw[O,U];clear O U;generalize (Int.gcd n d:Int)=g at *;have a2:(g == 0)=false:=by simp;omega
  have V:(-g == 0)=false:=by simp;omega
  go_enter Tryz.func80,Tryz.ntmps80
  go_wp2_with fail
  refine(jI n _ hn K).mono ?_;rintro e w1 ⟨rfl,rfl⟩;go_wp2_with fail
  refine(jI d _ hd M).mono ?_;rintro e w1 ⟨rfl,rfl⟩;go_wp2_with fail
  refine(qAI _ _ g _ Oo Oo Oo Oo HG.out).mono ?_;rintro e w1 ⟨rfl,rfl⟩;go_wp2;go_region
  go_wp2;refine bodyPost_ret (v:=.agg #[.int .i64 _,.int .i64 _]) (by simp[results,Tryz.results80,go_sem]) rfl ⟨rfl,?_⟩;go_grown
 ·have O:RatM.frN n d=n.tdiv (Int.gcd n d):=by unfold RatM.frN;rw[if_neg I]
  have U:RatM.frD n d=d.tdiv (Int.gcd n d):=by unfold RatM.frD;rw[if_neg I]
  rw[O,U];clear O U;generalize (Int.gcd n d:Int)=g at *;have a2:(g == 0)=false:=by simp;omega
  have V:(-g == 0)=false:=by simp;omega
  go_enter Tryz.func80,Tryz.ntmps80
  go_wp2_with fail
  refine(jI n _ hn K).mono ?_;rintro e w1 ⟨rfl,rfl⟩;go_wp2_with fail
  refine(jI d _ hd M).mono ?_;rintro e w1 ⟨rfl,rfl⟩;go_wp2_with fail
  refine(qAI _ _ g _ Oo Oo Oo Oo HG.out).mono ?_;rintro e w1 ⟨rfl,rfl⟩;go_wp2;go_region
  go_wp2;refine bodyPost_ret (v:=.agg #[.int .i64 _,.int .i64 _]) (by simp[results,Tryz.results80,go_sem]) rfl ⟨rfl,?_⟩;go_grown
theorem zn(x lo hi:Int)(w:World)(I:lo<=x)(K:x<=hi):
 Cl 43 #[.int .i64 x,.int .i64 lo,.int .i64 hi] w λe w'=>e=.returned (.bool true)/\w'=w:=by
 go_enter Tryz.func43,Tryz.ntmps43
 go_wp2;go_ret;exact⟨rfl,rfl⟩
theorem bt{a b c:World}(h:Bl a b)(k:Bl b c):Bl a c:=h.trans (k.mono h.size)
def OkR(n d:Int):Prop:=1<=d/\d<=1000000/\-1000000<=n/\n<=1000000/\Int.gcd n d=1
theorem Yt(n d:Int)(w:World)(h:OkR n d):
 Cl 98 #[.agg #[.int .i64 n,.int .i64 d]] w λe w'=>e=.returned (.bool true)/\Bl w w':=by
 obtain⟨M,O,U,V,I⟩:=h;have K:Hid ((Int.gcd n d:Int)=1):=by rw[I];exact rfl
 clear I;go_enter Tryz.func98,Tryz.ntmps98
 go_wp2_with (first|(go_at_call 89;refine(qA8 _ _ (by assumption) (by assumption)).mono ?_;rintro e w' ⟨rfl,rfl⟩)|(go_at_call 117;refine(JB n d 1 _ Oo Oo Oo Oo K.out).mono ?_;rintro e w' ⟨rfl,hb⟩))
 go_ret;exact⟨rfl,below_alloc1 hb⟩
theorem jV(x lo hi:Int)(w:World)(I:x < lo):
 Cl 43 #[.int .i64 x,.int .i64 lo,.int .i64 hi] w λe w'=>e=.returned (.bool false)/\w'=w:=by
 have K:decide (lo<=x)=false:=by simp;omega
 go_enter Tryz.func43,Tryz.ntmps43
 go_wp2;go_ret;exact⟨rfl,rfl⟩
theorem jY(x lo hi:Int)(w:World)(I:lo<=x)(K:hi < x):
 Cl 43 #[.int .i64 x,.int .i64 lo,.int .i64 hi] w λe w'=>e=.returned (.bool false)/\w'=w:=by
 have M:decide (x<=hi)=false:=by simp;omega
 go_enter Tryz.func43,Tryz.ntmps43
 go_wp2;go_ret;exact⟨rfl,rfl⟩
theorem qFt(a b B C:Int)(I:-B<=a)(K:a<=B)(M:-C<=b)(O:b<=C):-(B*C)<=a*b/\a*b<=B*C:=by
 have e:(a*b).natAbs=a.natAbs*b.natAbs:=Int.natAbs_mul a b;have U:a.natAbs*b.natAbs<=B.natAbs*C.natAbs:=Nat.mul_le_mul Oo Oo
 have V:B*C=((B.natAbs*C.natAbs:Nat):Int):=by
  rw[Int.natCast_mul,show(B.natAbs:Int)=B by omega,show(C.natAbs:Int)=C by omega]
 omega
theorem X5(a b:Int)(I:-1000000<=a)(K:a<=1000000)(M:-1000000<=b)(O:b<=1000000):-1000000000000<=a*b/\a*b<=1000000000000:=
 qFt a b 1000000 1000000 I K M O
theorem below_alloc3{q:Obj}(hb:Below (((w.alloc o).alloc p).alloc q).heap.size (((w.alloc o).alloc p).alloc q) w'):Bl w w':=
 ((((bM _ _).alloc (bK _) _).alloc Ss _).alloc (by simp;omega) _).trans (hb.mono (by simp;omega))
theorem below_alloc2(hb:Below ((w.alloc o).alloc p).heap.size ((w.alloc o).alloc p) w'):Bl w w':=
 (((bM _ _).alloc (bK _) _).alloc Ss _).trans (hb.mono (by simp;omega))
def PlC(f:Nat):Prop:=∀(a b c d:Int) (w:World),-4500000000000000000<=a*d->a*d<=4500000000000000000->-4500000000000000000<=c*b->c*b<=4500000000000000000->-4500000000000000000<=b*d->b*d<=4500000000000000000->b*d≠0->Cl f #[.agg #[.int .i64 a,.int .i64 b],.agg #[.int .i64 c,.int .i64 d]] w λe w'=>e=.returned (.agg #[.int .i64 (RatM.frN (a*d+c*b) (b*d)),.int .i64 (RatM.frD (a*d+c*b) (b*d))])/\Bl w w'
theorem PlC.both:PlC 99/\PlC 47:=by
 refine⟨λa b c d w V I m2 K m3 M O=>?_,λa b c d w V I m2 K m3 M O=>?_⟩
 focus
  go_enter Tryz.func99,Tryz.ntmps99
  go_wp2_with fail
  refine(xZ _ _ _ Oo Oo Oo Oo O).mono ?_
 rotate_left
 focus
  go_enter Tryz.func47,Tryz.ntmps47
  go_wp2_with fail
  refine(ym _ _ _ Oo Oo Oo Oo O).mono ?_
 all_goals
  rintro e w1 ⟨rfl,hb⟩
  obtain⟨U,hf⟩:=xP hb
  have c0:w1.cell? ⟨w.heap.size+1+1,0,none⟩=some (.int .i64 0):=(U _ 0 Ss).trans (by simp[go_sem])
  have c1:w1.cell? ⟨w.heap.size+1+1,1,none⟩=some (.int .i64 0):=(U _ 1 Ss).trans (by simp[go_sem])
  go_wp2
  refine bodyPost_ret (v:=.agg #[.int .i64 _,.int .i64 _]) (by simp[results,Tryz.results99,Tryz.results47,go_sem,c0,c1]) rfl ⟨rfl,?_⟩
  exact((below_alloc3 hb).setCell (by simp;omega) _).setCell (by simp;omega) _
theorem qA9:PlC 99:=PlC.both.1
theorem J9:PlC 47:=PlC.both.2
def MiC(f:Nat):Prop:=∀(a b c d:Int) (w:World),-4500000000000000000<=a*d->a*d<=4500000000000000000->-4500000000000000000<=c*b->c*b<=4500000000000000000->-4500000000000000000<=b*d->b*d<=4500000000000000000->b*d≠0->Cl f #[.agg #[.int .i64 a,.int .i64 b],.agg #[.int .i64 c,.int .i64 d]] w λe w'=>e=.returned (.agg #[.int .i64 (RatM.frN (a*d - c*b) (b*d)),.int .i64 (RatM.frD (a*d - c*b) (b*d))])/\Bl w w'
theorem MiC.both:MiC 186/\MiC 78:=by
 refine⟨λa b c d w V I m2 K m3 M O=>?_,λa b c d w V I m2 K m3 M O=>?_⟩
 focus
  go_enter Tryz.func186,Tryz.ntmps186
  go_wp2_with fail
  refine(xZ _ _ _ Oo Oo Oo Oo O).mono ?_
 rotate_left
 focus
  go_enter Tryz.func78,Tryz.ntmps78
  go_wp2_with fail
  refine(ym _ _ _ Oo Oo Oo Oo O).mono ?_
 all_goals
  rintro e w1 ⟨rfl,hb⟩
  obtain⟨U,hf⟩:=xP hb
  have c0:w1.cell? ⟨w.heap.size+1+1,0,none⟩=some (.int .i64 0):=(U _ 0 Ss).trans (by simp[go_sem])
  have c1:w1.cell? ⟨w.heap.size+1+1,1,none⟩=some (.int .i64 0):=(U _ 1 Ss).trans (by simp[go_sem])
  go_wp2
  refine bodyPost_ret (v:=.agg #[.int .i64 _,.int .i64 _]) (by simp[results,Tryz.results186,Tryz.results78,go_sem,c0,c1]) rfl ⟨rfl,?_⟩
  exact((below_alloc3 hb).setCell (by simp;omega) _).setCell (by simp;omega) _
theorem KG:MiC 186:=MiC.both.1
theorem JC:MiC 78:=MiC.both.2
def TiC(f:Nat):Prop:=∀(a b c d:Int) (w:World),-4500000000000000000<=a*c->a*c<=4500000000000000000->-4500000000000000000<=b*d->b*d<=4500000000000000000->b*d≠0->Cl f #[.agg #[.int .i64 a,.int .i64 b],.agg #[.int .i64 c,.int .i64 d]] w λe w'=>e=.returned (.agg #[.int .i64 (RatM.frN (a*c) (b*d)),.int .i64 (RatM.frD (a*c) (b*d))])/\Bl w w'
theorem TiC.both:TiC 189/\TiC 79:=by
 refine⟨λa b c d w U I V K M=>?_,λa b c d w U I V K M=>?_⟩
 focus
  go_enter Tryz.func189,Tryz.ntmps189
  go_wp2_with fail
  refine(xZ _ _ _ Oo Oo Oo Oo M).mono ?_
 rotate_left
 focus
  go_enter Tryz.func79,Tryz.ntmps79
  go_wp2_with fail
  refine(ym _ _ _ Oo Oo Oo Oo M).mono ?_
 all_goals
  rintro e w1 ⟨rfl,hb⟩
  obtain⟨O,hf⟩:=xP hb
  have c0:w1.cell? ⟨w.heap.size+1+1,0,none⟩=some (.int .i64 0):=(O _ 0 Ss).trans (by simp[go_sem])
  have c1:w1.cell? ⟨w.heap.size+1+1,1,none⟩=some (.int .i64 0):=(O _ 1 Ss).trans (by simp[go_sem])
  go_wp2
  refine bodyPost_ret (v:=.agg #[.int .i64 _,.int .i64 _]) (by simp[results,Tryz.results189,Tryz.results79,go_sem,c0,c1]) rfl ⟨rfl,?_⟩
  exact((below_alloc3 hb).setCell (by simp;omega) _).setCell (by simp;omega) _
theorem KK:TiC 189:=TiC.both.1
theorem JD:TiC 79:=TiC.both.2
theorem qBA(a b c d:Int)(w:World)(U:-4500000000000000000<=a*d)(K:a*d<=4500000000000000000)(V:-4500000000000000000<=b*c)(M:b*c<=4500000000000000000)(O:b*c≠0):
 Cl 187 #[.agg #[.int .i64 a,.int .i64 b],.agg #[.int .i64 c,.int .i64 d]] w λe w'=>e=.returned (.agg #[.int .i64 (RatM.frN (a*d) (b*c)),.int .i64 (RatM.frD (a*d) (b*c))])/\Bl w w':=by
 go_enter Tryz.func187,Tryz.ntmps187
 go_wp2_with fail
 refine(xZ _ _ _ Oo Oo Oo Oo O).mono ?_;rintro e w1 ⟨rfl,hb⟩;obtain⟨I,hf⟩:=xP hb;have c0:w1.cell? ⟨w.heap.size+1+1,0,none⟩=some (.int .i64 0):=(I _ 0 Ss).trans (by simp[go_sem]);have c1:w1.cell? ⟨w.heap.size+1+1,1,none⟩=some (.int .i64 0):=(I _ 1 Ss).trans (by simp[go_sem]);go_wp2;refine bodyPost_ret (v:=.agg #[.int .i64 _,.int .i64 _]) (by simp[results,Tryz.results187,go_sem,c0,c1]) rfl ⟨rfl,?_⟩;exact((below_alloc3 hb).setCell (by simp;omega) _).setCell (by simp;omega) _
theorem KR(a b c d:Int)(w:World)(U:-4500000000000000000<=a*d)(K:a*d<=4500000000000000000)(V:-4500000000000000000<=b*c)(M:b*c<=4500000000000000000)(O:b*c≠0):
 Cl 77 #[.agg #[.int .i64 a,.int .i64 b],.agg #[.int .i64 c,.int .i64 d]] w λe w'=>e=.returned (.agg #[.int .i64 (RatM.frN (a*d) (b*c)),.int .i64 (RatM.frD (a*d) (b*c))])/\Bl w w':=by
 go_enter Tryz.func77,Tryz.ntmps77
 go_wp2_with fail
 refine(ym _ _ _ Oo Oo Oo Oo O).mono ?_;rintro e w1 ⟨rfl,hb⟩;obtain⟨I,hf⟩:=xP hb;have c0:w1.cell? ⟨w.heap.size+1+1,0,none⟩=some (.int .i64 0):=(I _ 0 Ss).trans (by simp[go_sem]);have c1:w1.cell? ⟨w.heap.size+1+1,1,none⟩=some (.int .i64 0):=(I _ 1 Ss).trans (by simp[go_sem]);go_wp2;refine bodyPost_ret (v:=.agg #[.int .i64 _,.int .i64 _]) (by simp[results,Tryz.results77,go_sem,c0,c1]) rfl ⟨rfl,?_⟩;exact((below_alloc3 hb).setCell (by simp;omega) _).setCell (by simp;omega) _
theorem qBB(n d:Int)(w:World):
 Cl 188 #[.agg #[.int .i64 n,.int .i64 d]] w λe w'=>e=.returned (.int .i64 (RatM.sgn n))/\Bl w w':=by
 go_enter Tryz.func188,Tryz.ntmps188
 go_wp2
 all_goals
  go_ret
  exact⟨qv (by unfold RatM.sgn;repeat' split;all_goals omega),by go_grown⟩
theorem Ka(a b c d:Int)(w:World)(M:-4500000000000000000<=a*d)(I:a*d<=4500000000000000000)(O:-4500000000000000000<=c*b)(K:c*b<=4500000000000000000):
 Cl 76 #[.agg #[.int .i64 a,.int .i64 b],.agg #[.int .i64 c,.int .i64 d]] w λe w'=>e=.returned (.bool (decide (a*d < c*b)))/\Bl w w':=by
 go_enter Tryz.func76,Tryz.ntmps76
 go_wp2;go_ret;exact⟨rfl,by go_grown⟩
def enc(q:Rat):Value:=.agg #[.int .i64 q.num,.int .i64 q.den]
theorem Jp(b:Int)(g:Nat)(h:0<=b):b.tdiv (g:Int)=((b.natAbs / g:Nat):Int):=by
 have e:=Int.ofNat_tdiv b.natAbs g;rw[show((b.natAbs:Nat):Int)=b by omega]at e;rw[<-e]
theorem qBi(a b:Int)(h:b≠0):RatM.frN a b=(Rat.divInt a b).num/\RatM.frD a b=((Rat.divInt a b).den:Int):=by
 have I:((Int.gcd a b:Nat):Int) ∣ a:=Int.gcd_dvd_left ..;have K:=RatM.gcd_pos a b h;rw[Rat.num_divInt,Rat.den_divInt,if_neg h,Int.gcd_comm b a];unfold RatM.frN RatM.frD;by_cases hb:b < 0
 ·rw[if_pos hb,if_pos hb,Int.sign_eq_neg_one_of_neg hb];refine⟨?_,?_⟩
  ·rw[Int.tdiv_eq_ediv_of_dvd ((Int.dvd_neg).2 I)];congr 1;omega
  ·rw[show -b=((b.natAbs:Nat):Int)by omega,Int.ofNat_tdiv]
 ·rw[if_neg hb,if_neg hb,Int.sign_eq_one_of_pos Oo];refine⟨?_,?_⟩
  ·rw[Int.tdiv_eq_ediv_of_dvd I];congr 1;omega
  ·generalize Int.gcd a b=g;rw[Jp b g Oo]
theorem uU(a b:Int)(h:b≠0)(q:Rat)(hq:q=Rat.divInt a b):(.agg #[.int .i64 (RatM.frN a b),.int .i64 (RatM.frD a b)]:Value)=enc q:=by
 obtain⟨I,K⟩:=qBi a b h;unfold enc;rw[I,K,hq]
def Sm(B:Nat)(q:Rat):Prop:=q.num.natAbs<=B/\q.den<=B
theorem Sm.mono(h:Sm B q)(I:B<=C):Sm C q:=⟨by have:=h.1;omega,by have:=h.2;omega⟩
theorem xS(I:a.natAbs<=B)(hb:b.natAbs<=C)(K:B*C<=4500000000000000000):-4500000000000000000<=a*b/\a*b<=4500000000000000000:=by
 have M:(a*b).natAbs<=B*C:=by rw[Int.natAbs_mul];exact Nat.mul_le_mul I hb
 omega
theorem zO{D:Int}{Z:Nat}(K:D≠0)(hD:D.natAbs<=B)(hz:Cov.Whole Z (q*D))(hZ:Z<=B):Sm B q:=by
 obtain⟨z,h1,h2⟩:=hz;have I:((q.den:Nat):Int)≠0:=by have:=q.den_nz;omega
 have e:Rat.divInt q.num q.den=Rat.divInt z D:=by
  rw[Rat.num_divInt_den,Rat.divInt_eq_div]
  have:((D:Int):Rat)≠0:=by
   intro e;apply K;have:=congrArg Rat.num e;simpa using this
  rw[<-h1];grind
 rw[Rat.divInt_eq_divInt_iff I K]at e;have V:=q.reduced
 have M:q.den ∣ D.natAbs:=by
  have:q.den ∣ q.num.natAbs*D.natAbs:=by
   rw[<-Int.natAbs_mul,e,Int.natAbs_mul,Int.natAbs_natCast];exact Nat.dvd_mul_left _ _
  exact(Nat.Coprime.symm V).dvd_of_dvd_mul_left this
 have O:q.num.natAbs ∣ z.natAbs:=by
  have:q.num.natAbs ∣ z.natAbs*q.den:=by
   have e2:=congrArg Int.natAbs e;rw[Int.natAbs_mul,Int.natAbs_mul,Int.natAbs_natCast]at e2;rw[<-e2];exact Nat.dvd_mul_right _ _
  exact V.dvd_of_dvd_mul_right this
 refine⟨?_,?_⟩
 ·by_cases U:z=0
  ·rw[U,Int.zero_mul]at e;rcases Int.mul_eq_zero.1 e with e|e
   ·rw[e];simp
   ·exact absurd e K
  ·have:=Nat.le_of_dvd Oo O;omega
 ·have:=Nat.le_of_dvd Oo M;omega
theorem qAa{p m d:Rat}(I:d≠0)(h:m / d=p):p*d=m:=Rr
theorem Qb(p:Rat):p*(((p.den:Nat):Int):Rat)=((p.num:Int):Rat):=by
 have h:=Rat.num_divInt_den p;rw[Rat.divInt_eq_div]at h
 have I:(((p.den:Nat):Int):Rat)≠0:=by
  intro e;have:=congrArg Rat.num e;have K:=p.den_nz;simp at this;omega
 exact qAa I h
theorem Sm.mul{p:Rat}(hp:Sm B p)(hq:Sm C q):Sm (B*C) (p*q):=by
 refine zO (D:=((p.den*q.den:Nat):Int)) (Z:=B*C) ?_ ?_ ⟨p.num*q.num,?_,?_⟩ (bK _)
 ·have I:=p.den_nz;have K:=q.den_nz;have:=Nat.mul_ne_zero I K;omega
 ·rw[Int.natAbs_natCast];exact Nat.mul_le_mul hp.2 hq.2
 ·have M:=Qb p;have O:=Qb q;have U:(((p.den*q.den:Nat):Int):Rat)=(((p.den:Nat):Int):Rat)*(((q.den:Nat):Int):Rat):=by rw[Int.natCast_mul];simp
  have V:((p.num*q.num:Int):Rat)=((p.num:Int):Rat)*((q.num:Int):Rat):=Ss;rw[U,V,<-M,<-O];grind
 ·rw[Int.natAbs_mul];exact Nat.mul_le_mul hp.1 hq.1
theorem zr(q:Rat):((q.den:Nat):Int).natAbs=q.den:=Int.natAbs_natCast _
theorem qFS(p q:Rat)(w:World)(hp:Sm B p)(hq:Sm C q)(h:B*C<=4500000000000000000):
 Cl 186 #[enc p,enc q] w λe w'=>e=.returned (enc (p - q))/\Bl w w':=by
 have K:=xS hp.1 (show((q.den:Nat):Int).natAbs<=C by rw[zr];exact hq.2) h;have M:=xS (a:=q.num) (b:=(p.den:Int)) (B:=C) (C:=B) hq.1 (by rw[zr];exact hp.2) (by rw[Nat.mul_comm];exact h);have O:=xS (a:=(p.den:Int)) (b:=(q.den:Int)) (B:=B) (C:=C) (by rw[zr];exact hp.2) (by rw[zr];exact hq.2) h;have I:(p.den:Int)*(q.den:Int)≠0:=Int.mul_ne_zero (by have:=p.den_nz;omega) (by have:=q.den_nz;omega)
 rw[<-uU (p.num*q.den - q.num*p.den) (p.den*q.den) I (p - q) (by
  rw[<-Rat.divInt_sub_divInt _ _ (by have:=p.den_nz;omega) (by have:=q.den_nz;omega),Rat.num_divInt_den,Rat.num_divInt_den])]
 exact KG p.num p.den q.num q.den w K.1 K.2 M.1 M.2 O.1 O.2 I
theorem qFT(p q:Rat)(w:World)(hp:Sm B p)(hq:Sm C q)(h:B*C<=4500000000000000000):
 Cl 189 #[enc p,enc q] w λe w'=>e=.returned (enc (p*q))/\Bl w w':=by
 have K:=xS hp.1 hq.1 h;have M:=xS (a:=(p.den:Int)) (b:=(q.den:Int)) (B:=B) (C:=C) (by rw[zr];exact hp.2) (by rw[zr];exact hq.2) h;have I:(p.den:Int)*(q.den:Int)≠0:=Int.mul_ne_zero (by have:=p.den_nz;omega) (by have:=q.den_nz;omega)
 rw[<-uU (p.num*q.num) (p.den*q.den) I (p*q) (by
  rw[<-Rat.divInt_mul_divInt,Rat.num_divInt_den,Rat.num_divInt_den])]
 exact KK p.num p.den q.num q.den w K.1 K.2 M.1 M.2 I
theorem ks(h:q≠0):q.num≠0:=by
 intro e;exact h (Rat.num_eq_zero.1 e)
theorem qF4(p q:Rat)(w:World)(hp:Sm B p)(hq:Sm C q)(h:B*C<=4500000000000000000)(K:q≠0):
 Cl 187 #[enc p,enc q] w λe w'=>e=.returned (enc (p / q))/\Bl w w':=by
 have M:=xS hp.1 (show((q.den:Nat):Int).natAbs<=C by rw[zr];exact hq.2) h;have O:=xS (a:=(p.den:Int)) (b:=q.num) (B:=B) (C:=C) (by rw[zr];exact hp.2) hq.1 h;have I:(p.den:Int)*q.num≠0:=Int.mul_ne_zero (by have:=p.den_nz;omega) (ks K)
 rw[<-uU (p.num*q.den) (p.den*q.num) I (p / q) (by
  rw[<-Rat.divInt_mul_divInt,Rat.num_divInt_den,<-Rat.inv_divInt,Rat.num_divInt_den,Rat.div_def])]
 exact qBA p.num p.den q.num q.den w M.1 M.2 O.1 O.2 I
def sgR(q:Rat):Int:=if q < 0 then -1 else if 0 < q then 1 else 0
theorem qEE(q:Rat):RatM.sgn q.num=sgR q:=by
 have M:q < 0↔q.num < 0:=by
  have:=Rat.num_nonneg (q:=q);constructor
  ·intro h;by_cases e:q.num < 0
   ·exact e
   ·have:=this.1 Oo;grind
  ·intro h;by_cases e:q < 0
   ·exact e
   ·have:=this.2 Rr;omega
 have O:0 < q↔0 < q.num:=by
  have:=Rat.num_nonneg (q:=q);constructor
  ·intro h;have a:=this.2 Rr;by_cases e:q.num=0
   ·rw[Rat.num_eq_zero.1 e]at h;grind
   ·omega
  ·intro h;have a:=this.1 Oo;by_cases e:q=0
   ·rw[e]at h;simp at h
   ·grind
 unfold RatM.sgn sgR;by_cases I:q < 0
 ·rw[if_pos I,if_pos (M.1 I)]
 ·rw[if_neg I,if_neg (λh=>I (M.2 h))];by_cases K:0 < q
  ·rw[if_pos K,if_pos (O.1 K)]
  ·rw[if_neg K,if_neg (λh=>K (O.2 h))]
theorem Zn(q:Rat)(w:World):
 Cl 188 #[enc q] w λe w'=>e=.returned (.int .i64 (sgR q))/\Bl w w':=by
 rw[<-qEE];exact qBB q.num q.den w
theorem yu(h:q < 0):sgR q=-1:=if_pos h
theorem yw(h:0 < q):sgR q=1:=by unfold sgR;rw[if_neg Rr,if_pos h]
theorem yy(h:q=0):sgR q=0:=by unfold sgR;rw[if_neg Rr,if_neg Rr]
theorem qEF(n:Int):enc (n:Rat)=.agg #[.int .i64 n,.int .i64 1]:=by
 unfold enc;simp
theorem qFU(f:Value)(a b n:Int)(I:f=.agg #[.int .i64 a,.int .i64 b])(w:World):
 Cl 190 #[f,.int .i64 n] w λe w'=>e=.returned (enc (n:Rat))/\Bl w w':=by
 subst I;rw[qEF];go_enter Tryz.func190,Tryz.ntmps190
 go_wp2;refine bodyPost_ret (v:=.agg #[.int .i64 n,.int .i64 1]) (by simp[results,Tryz.results190,go_sem]) rfl ⟨rfl,?_⟩;go_grown
theorem Zo(p q:Rat)(w:World)(hp:Sm B p)(hq:Sm C q)(h:B*C<=4500000000000000000):
 Cl 186 #[.agg #[.int .i64 (p).num,.int .i64 (p).den],.agg #[.int .i64 (q).num,.int .i64 (q).den]] w λe w'=>e=.returned (.agg #[.int .i64 (p - q).num,.int .i64 (p - q).den])/\Bl w w':=qFS p q w hp hq h
theorem qBj(p q:Rat)(w:World)(hp:Sm B p)(hq:Sm C q)(h:B*C<=4500000000000000000):
 Cl 189 #[.agg #[.int .i64 (p).num,.int .i64 (p).den],.agg #[.int .i64 (q).num,.int .i64 (q).den]] w λe w'=>e=.returned (.agg #[.int .i64 (p*q).num,.int .i64 (p*q).den])/\Bl w w':=qFT p q w hp hq h
theorem qAb(p q:Rat)(w:World)(hp:Sm B p)(hq:Sm C q)(h:B*C<=4500000000000000000)(I:q≠0):
 Cl 187 #[.agg #[.int .i64 (p).num,.int .i64 (p).den],.agg #[.int .i64 (q).num,.int .i64 (q).den]] w λe w'=>e=.returned (.agg #[.int .i64 (p / q).num,.int .i64 (p / q).den])/\Bl w w':=qF4 p q w hp hq h I
theorem vM(q:Rat)(w:World):
 Cl 188 #[.agg #[.int .i64 (q).num,.int .i64 (q).den]] w λe w'=>e=.returned (.int .i64 (sgR q))/\Bl w w':=Zn q w
theorem qFV(a b n:Int)(w:World):
 Cl 190 #[.agg #[.int .i64 a,.int .i64 b],.int .i64 n] w λe w'=>e=.returned (.agg #[.int .i64 (n:Rat).num,.int .i64 (n:Rat).den])/\Bl w w':=qFU _ a b n rfl w
theorem qEu(a b c d:Int)(h:OkR a b)(K:OkR c d):
 (-1000000000000<=a*d/\a*d<=1000000000000)/\(-1000000000000<=c*b/\c*b<=1000000000000)/\(0 < b*d/\b*d<=1000000000000):=by
 obtain⟨V,I,M,O,_⟩:=h;obtain⟨k1,k2,k3,U,_⟩:=K;exact⟨X5 a d M O Oo k2,X5 c b k3 U Oo I,Int.mul_pos Oo Oo,(X5 b d Oo I Oo k2).2⟩
theorem qFu(n d:Int)(I:0 < d):OkR (RatM.frN n d) (RatM.frD n d)↔(-1000000<=RatM.frN n d/\RatM.frN n d<=1000000/\-1000000<=RatM.frD n d/\RatM.frD n d<=1000000):=by
 have K:=RatM.frD_pos n d Oo;have M:=RatM.fr_coprime n d Oo;unfold OkR;omega
theorem qDd(a b c d:Int)(w:World)(h:OkR a b)(h':OkR c d)(hs:OkR (RatM.frN (a*d+c*b) (b*d)) (RatM.frD (a*d+c*b) (b*d))):
 Cl 58 #[.agg #[.int .i64 a,.int .i64 b],.agg #[.int .i64 c,.int .i64 d]] w λe w'=>e=.returned (.agg #[.int .i64 (RatM.frN (a*d+c*b) (b*d)),.int .i64 (RatM.frD (a*d+c*b) (b*d))])/\Bl w w':=by
 obtain⟨⟨m1,a7⟩,⟨m2,a8⟩,m3,a9⟩:=qEu a b c d h h';have H:=hid h;have H':=hid h';clear h h';rw[qFu _ _ m3]at hs;obtain⟨x,U⟩:∃x,x=RatM.frN (a*d+c*b) (b*d):=⟨_,rfl⟩;obtain⟨y,V⟩:∃y,y=RatM.frD (a*d+c*b) (b*d):=⟨_,rfl⟩;rw[<-U,<-V]at hs;rw[<-U,<-V];obtain⟨p1,p2,p3,p4⟩:=hs
 have PL:Hid (∀w,Cl 99 #[.agg #[.int .i64 a,.int .i64 b],.agg #[.int .i64 c,.int .i64 d]] w λe w'=>e=.returned (.agg #[.int .i64 x,.int .i64 y])/\Bl w w'):=by
  intro w;rw[U,V];exact qA9 a b c d w Oo Oo Oo Oo Oo Oo Oo
 clear U V;go_enter Tryz.func58,Tryz.ntmps58
 go_wp2_with fail
 refine(Yt a b _ H.out).mono ?_;rintro e w1 ⟨rfl,M⟩;obtain⟨K,a2⟩:=xP M;have d0:w1.cell? ⟨w.heap.size+1,0,none⟩=some (.int .i64 c):=(K _ 0 Ss).trans (by simp[go_sem]);have d1:w1.cell? ⟨w.heap.size+1,1,none⟩=some (.int .i64 d):=(K _ 1 Ss).trans (by simp[go_sem]);clear K a2;go_wp2_with fail
 refine(Yt c d _ H'.out).mono ?_;rintro e w2 ⟨rfl,a3⟩;have O:=bt M a3;obtain⟨I,a4⟩:=xP O;have d2:w2.cell? ⟨w.heap.size+1,0,none⟩=some (.int .i64 c):=(I _ 0 Ss).trans (by simp[go_sem]);have d3:w2.cell? ⟨w.heap.size+1,1,none⟩=some (.int .i64 d):=(I _ 1 Ss).trans (by simp[go_sem]);have d4:w2.cell? ⟨w.heap.size,0,none⟩=some (.int .i64 a):=(I _ 0 (by simp;omega)).trans (by simp[go_sem]);have d5:w2.cell? ⟨w.heap.size,1,none⟩=some (.int .i64 b):=(I _ 1 (by simp;omega)).trans (by simp[go_sem]);clear I a4;go_wp2_with fail
 refine(PL.out _).mono ?_;rintro e w4 ⟨rfl,a5⟩;go_wp2_with fail
 refine(Ys x y _ p1 p2 p3 p4).mono ?_;rintro e wE ⟨rfl,a6⟩;have hb:=bt (bt O a5) a6;obtain⟨hc,hf⟩:=xP hb;have c0:wE.cell? ⟨w.heap.size+1+1,0,none⟩=some (.int .i64 0):=(hc _ 0 Ss).trans (by simp[go_sem]);have c1:wE.cell? ⟨w.heap.size+1+1,1,none⟩=some (.int .i64 0):=(hc _ 1 Ss).trans (by simp[go_sem]);go_wp2;refine bodyPost_ret (v:=.agg #[.int .i64 _,.int .i64 _]) (by simp[results,Tryz.results58,go_sem,c0,c1]) rfl ⟨rfl,?_⟩;exact((below_alloc3 hb).setCell (by simp;omega) _).setCell (by simp;omega) _
end Go.Proofs.YtkaipapdlnojiaaGreat
